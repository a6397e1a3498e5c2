/-
  No cell of these rows narrows 'for every input' (looked for: loops, veiled, ifaces, maps, wideKeys, modest, calm, conditions, laid).
  DERIVED. THE GIVEN ROWS OF THIS SEAT. 4 by the template 'for every input the law returns true; each argument reads behind the call as it read before'; 0 by the template 'total and deterministic' (their statements: YtljedbadgfjopapTotals.lean).
  GIVEN WITH THE SEED: the statements are not yours to turn. If you find one false, say at which input.
  Laid BY PROGRAM, IN A SANDBOX (cutbox-rows.mjs): the forced cells as the released guide's own fill.sh prints them over the translation d5615d62456d5d3d… (all of the seat's roots in one cut). By AI agents, Wed Nov 11 2026. No macro, syntax, notation, axiom, sorry.
-/
import Derived.Test.YtljedbadgfjopapChecked
import GoSem.Claim
import GoSem.ClaimJoined
import GoSem.ClaimMapViews
import Derived.JoinedTies
import Derived.KernelRfl
namespace Go.Proofs.Ytljedbadgfjopap
/- THE CELL 'sum', in the pinned program and in every row, IS THE sha256 OF THE DUMP (.gsa) THAT YtljedbadgfjopapProg.lean LOADS. Nothing in Lean hashes anything: it is a label: what it is worth is what the hold of that sum in a sandbox is worth. -/
noncomputable def Try.pinned : Pinned := { name := "ytljedbadgfjopap", sum := "d5615d62456d5d3d0f457c5d0786a24b7c90f19a0890a7e67f74b9dc97aff1c1", checked := Try.checked }
namespace Rows
def none {H : Type} : Left H := { results := [], args := [] }

/-- 'laws.FnExactDskDo': WHATEVER THE INPUT: true; the input reads as it did. -/
def fnExactDskDoSpec : ChangeSpec := { name := "fnExactDskDo", fn := fun _ => fun
  | [d1, d2] => { results := [.lit (.bool true)], args := [d1, d2] }
  | _ => none }
def fnExactDskDoRow : OpenClaim := { program := "ytljedbadgfjopap", sum := "d5615d62456d5d3d0f457c5d0786a24b7c90f19a0890a7e67f74b9dc97aff1c1", func := "loop.example/selvedge/laws.FnExactDskDo", spec := "fnExactDskDo", apart := false }
def FnExactDskDoSaid : Prop := fnExactDskDoRow.holds Try.pinned (OpenSpec.ofChange fnExactDskDoSpec)

/-- ITS FALSE NEIGHBOUR: 'it returns false'. Refute it at one input. -/
def fnExactDskDoWrong : ChangeSpec := { name := "fnExactDskDo", fn := fun _ => fun
  | [d1, d2] => { results := [.lit (.bool false)], args := [d1, d2] }
  | _ => none }
def FnExactDskDoWrongFalsely : Prop := fnExactDskDoRow.holds Try.pinned (OpenSpec.ofChange fnExactDskDoWrong)

/-- 'laws.FnExactFldOk': WHATEVER THE INPUT: true; the input reads as it did. -/
def fnExactFldOkSpec : ChangeSpec := { name := "fnExactFldOk", fn := fun _ => fun
  | [d] => { results := [.lit (.bool true)], args := [d] }
  | _ => none }
def fnExactFldOkRow : OpenClaim := { program := "ytljedbadgfjopap", sum := "d5615d62456d5d3d0f457c5d0786a24b7c90f19a0890a7e67f74b9dc97aff1c1", func := "loop.example/selvedge/laws.FnExactFldOk", spec := "fnExactFldOk", apart := false }
def FnExactFldOkSaid : Prop := fnExactFldOkRow.holds Try.pinned (OpenSpec.ofChange fnExactFldOkSpec)

/-- ITS FALSE NEIGHBOUR: 'it returns false'. Refute it at one input. -/
def fnExactFldOkWrong : ChangeSpec := { name := "fnExactFldOk", fn := fun _ => fun
  | [d] => { results := [.lit (.bool false)], args := [d] }
  | _ => none }
def FnExactFldOkWrongFalsely : Prop := fnExactFldOkRow.holds Try.pinned (OpenSpec.ofChange fnExactFldOkWrong)

/-- 'laws.FnExactFldAdd': WHATEVER THE INPUT: true; the input reads as it did. -/
def fnExactFldAddSpec : ChangeSpec := { name := "fnExactFldAdd", fn := fun _ => fun
  | [d1, d2] => { results := [.lit (.bool true)], args := [d1, d2] }
  | _ => none }
def fnExactFldAddRow : OpenClaim := { program := "ytljedbadgfjopap", sum := "d5615d62456d5d3d0f457c5d0786a24b7c90f19a0890a7e67f74b9dc97aff1c1", func := "loop.example/selvedge/laws.FnExactFldAdd", spec := "fnExactFldAdd", apart := false }
def FnExactFldAddSaid : Prop := fnExactFldAddRow.holds Try.pinned (OpenSpec.ofChange fnExactFldAddSpec)

/-- ITS FALSE NEIGHBOUR: 'it returns false'. Refute it at one input. -/
def fnExactFldAddWrong : ChangeSpec := { name := "fnExactFldAdd", fn := fun _ => fun
  | [d1, d2] => { results := [.lit (.bool false)], args := [d1, d2] }
  | _ => none }
def FnExactFldAddWrongFalsely : Prop := fnExactFldAddRow.holds Try.pinned (OpenSpec.ofChange fnExactFldAddWrong)

/-- 'laws.FnExactFldNeg': WHATEVER THE INPUT: true; the input reads as it did. -/
def fnExactFldNegSpec : ChangeSpec := { name := "fnExactFldNeg", fn := fun _ => fun
  | [d] => { results := [.lit (.bool true)], args := [d] }
  | _ => none }
def fnExactFldNegRow : OpenClaim := { program := "ytljedbadgfjopap", sum := "d5615d62456d5d3d0f457c5d0786a24b7c90f19a0890a7e67f74b9dc97aff1c1", func := "loop.example/selvedge/laws.FnExactFldNeg", spec := "fnExactFldNeg", apart := false }
def FnExactFldNegSaid : Prop := fnExactFldNegRow.holds Try.pinned (OpenSpec.ofChange fnExactFldNegSpec)

/-- ITS FALSE NEIGHBOUR: 'it returns false'. Refute it at one input. -/
def fnExactFldNegWrong : ChangeSpec := { name := "fnExactFldNeg", fn := fun _ => fun
  | [d] => { results := [.lit (.bool false)], args := [d] }
  | _ => none }
def FnExactFldNegWrongFalsely : Prop := fnExactFldNegRow.holds Try.pinned (OpenSpec.ofChange fnExactFldNegWrong)

/- THE SECOND FORM. 'bulk': how many values and letters a reading holds, each counted each time it is reached (what is shared counts as often as it is met; a slice's spare places count too). A statement '..UptoSaid' is the law's where the arguments, and the package variables that the reading takes, are together of bulk at most 1048576: NARROWER than '..Said'. Prove '..Said' where nothing that the law and all that it calls make is longer than what came in: it says more and counts as full. Else prove '..UptoSaid'. A law counts once. -/
mutual
def uptoBulk {H : Type} : DataW H → Nat
  | .lit (.string bytes) => bytes.length + 1
  | .lit _ => 1
  | .nil => 1
  | .ptr d => uptoBulk d + 1
  | .slice elems spare => uptoBulkAll elems + uptoBulkAll spare + 1
  | .agg parts => uptoBulkAll parts + 1
  | .iface _ d => uptoBulk d + 1
  | .map entries => uptoBulkEntries entries + 1
  | .held _ => 1
def uptoBulkAll {H : Type} : List (DataW H) → Nat
  | [] => 0
  | d :: r => uptoBulk d + uptoBulkAll r
def uptoBulkEntries {H : Type} : List (Lit × DataW H) → Nat
  | [] => 0
  | x :: r => uptoBulkEntry x + uptoBulkEntries r
def uptoBulkEntry {H : Type} : Lit × DataW H → Nat
  | (.string bytes, d) => bytes.length + uptoBulk d + 1
  | (_, d) => uptoBulk d + 1
 end
def uptoSmall : (H : Type) → List (DataW H) → Bool := fun _ ds => decide (uptoBulkAll ds ≤ 1048576)
def OpenSpec.upto (s : _root_.Go.ChangeSpec) : _root_.Go.OpenSpec := { _root_.Go.OpenSpec.ofChange s with cond := some uptoSmall }

/-- 'laws.FnExactDskDo', WHERE WHAT IT READS IS OF BULK AT MOST 1048576: true; the input reads as it did. -/
def fnExactDskDoUptoRow : OpenClaim := { program := "ytljedbadgfjopap", sum := "d5615d62456d5d3d0f457c5d0786a24b7c90f19a0890a7e67f74b9dc97aff1c1", func := "loop.example/selvedge/laws.FnExactDskDo", spec := "fnExactDskDo", apart := false, narrowed := true }
def FnExactDskDoUptoSaid : Prop := fnExactDskDoUptoRow.holds Try.pinned (OpenSpec.upto fnExactDskDoSpec)

/-- 'laws.FnExactFldOk', WHERE WHAT IT READS IS OF BULK AT MOST 1048576: true; the input reads as it did. -/
def fnExactFldOkUptoRow : OpenClaim := { program := "ytljedbadgfjopap", sum := "d5615d62456d5d3d0f457c5d0786a24b7c90f19a0890a7e67f74b9dc97aff1c1", func := "loop.example/selvedge/laws.FnExactFldOk", spec := "fnExactFldOk", apart := false, narrowed := true }
def FnExactFldOkUptoSaid : Prop := fnExactFldOkUptoRow.holds Try.pinned (OpenSpec.upto fnExactFldOkSpec)

/-- 'laws.FnExactFldAdd', WHERE WHAT IT READS IS OF BULK AT MOST 1048576: true; the input reads as it did. -/
def fnExactFldAddUptoRow : OpenClaim := { program := "ytljedbadgfjopap", sum := "d5615d62456d5d3d0f457c5d0786a24b7c90f19a0890a7e67f74b9dc97aff1c1", func := "loop.example/selvedge/laws.FnExactFldAdd", spec := "fnExactFldAdd", apart := false, narrowed := true }
def FnExactFldAddUptoSaid : Prop := fnExactFldAddUptoRow.holds Try.pinned (OpenSpec.upto fnExactFldAddSpec)

/-- 'laws.FnExactFldNeg', WHERE WHAT IT READS IS OF BULK AT MOST 1048576: true; the input reads as it did. -/
def fnExactFldNegUptoRow : OpenClaim := { program := "ytljedbadgfjopap", sum := "d5615d62456d5d3d0f457c5d0786a24b7c90f19a0890a7e67f74b9dc97aff1c1", func := "loop.example/selvedge/laws.FnExactFldNeg", spec := "fnExactFldNeg", apart := false, narrowed := true }
def FnExactFldNegUptoSaid : Prop := fnExactFldNegUptoRow.holds Try.pinned (OpenSpec.upto fnExactFldNegSpec)

end Rows
end Go.Proofs.Ytljedbadgfjopap
