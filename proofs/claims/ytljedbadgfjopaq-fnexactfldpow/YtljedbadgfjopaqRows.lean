/-
  No cell of these rows narrows 'for every input' (looked for: loops, veiled, ifaces, maps, wideKeys, modest, calm, conditions, laid).
  DERIVED. THE GIVEN ROWS OF THIS SEAT. 6 by the template 'for every input the law returns true; each argument reads behind the call as it read before'; 0 by the template 'total and deterministic' (their statements: YtljedbadgfjopaqTotals.lean).
  GIVEN WITH THE SEED: the statements are not yours to turn. If you find one false, say at which input.
  Laid BY PROGRAM, IN A SANDBOX (cutbox-rows.mjs): the forced cells as the released guide's own fill.sh prints them over the translation 7e2a413b07bddef8… (all of the seat's roots in one cut). By AI agents, Wed Nov 11 2026. No macro, syntax, notation, axiom, sorry.
-/
import Derived.Test.YtljedbadgfjopaqChecked
import GoSem.Claim
import GoSem.ClaimJoined
import GoSem.ClaimMapViews
import Derived.JoinedTies
import Derived.KernelRfl
namespace Go.Proofs.Ytljedbadgfjopaq
/- THE CELL 'sum', in the pinned program and in every row, IS THE sha256 OF THE DUMP (.gsa) THAT YtljedbadgfjopaqProg.lean LOADS. Nothing in Lean hashes anything: it is a label: what it is worth is what the hold of that sum in a sandbox is worth. -/
noncomputable def Try.pinned : Pinned := { name := "ytljedbadgfjopaq", sum := "7e2a413b07bddef868aa4d53569845d89681f42eb372ae05c43c17ee70f3c589", checked := Try.checked }
namespace Rows
def none {H : Type} : Left H := { results := [], args := [] }

/-- 'laws.FnExactFldMul': WHATEVER THE INPUT: true; the input reads as it did. -/
def fnExactFldMulSpec : ChangeSpec := { name := "fnExactFldMul", fn := fun _ => fun
  | [d1, d2] => { results := [.lit (.bool true)], args := [d1, d2] }
  | _ => none }
def fnExactFldMulRow : OpenClaim := { program := "ytljedbadgfjopaq", sum := "7e2a413b07bddef868aa4d53569845d89681f42eb372ae05c43c17ee70f3c589", func := "loop.example/selvedge/laws.FnExactFldMul", spec := "fnExactFldMul", apart := false }
def FnExactFldMulSaid : Prop := fnExactFldMulRow.holds Try.pinned (OpenSpec.ofChange fnExactFldMulSpec)

/-- ITS FALSE NEIGHBOUR: 'it returns false'. Refute it at one input. -/
def fnExactFldMulWrong : ChangeSpec := { name := "fnExactFldMul", fn := fun _ => fun
  | [d1, d2] => { results := [.lit (.bool false)], args := [d1, d2] }
  | _ => none }
def FnExactFldMulWrongFalsely : Prop := fnExactFldMulRow.holds Try.pinned (OpenSpec.ofChange fnExactFldMulWrong)

/-- 'laws.FnExactFldPow': WHATEVER THE INPUT: true; the input reads as it did. -/
def fnExactFldPowSpec : ChangeSpec := { name := "fnExactFldPow", fn := fun _ => fun
  | [d1, d2] => { results := [.lit (.bool true)], args := [d1, d2] }
  | _ => none }
def fnExactFldPowRow : OpenClaim := { program := "ytljedbadgfjopaq", sum := "7e2a413b07bddef868aa4d53569845d89681f42eb372ae05c43c17ee70f3c589", func := "loop.example/selvedge/laws.FnExactFldPow", spec := "fnExactFldPow", apart := false }
def FnExactFldPowSaid : Prop := fnExactFldPowRow.holds Try.pinned (OpenSpec.ofChange fnExactFldPowSpec)

/-- ITS FALSE NEIGHBOUR: 'it returns false'. Refute it at one input. -/
def fnExactFldPowWrong : ChangeSpec := { name := "fnExactFldPow", fn := fun _ => fun
  | [d1, d2] => { results := [.lit (.bool false)], args := [d1, d2] }
  | _ => none }
def FnExactFldPowWrongFalsely : Prop := fnExactFldPowRow.holds Try.pinned (OpenSpec.ofChange fnExactFldPowWrong)

/-- 'laws.FnExactFldInv': WHATEVER THE INPUT: true; the input reads as it did. -/
def fnExactFldInvSpec : ChangeSpec := { name := "fnExactFldInv", fn := fun _ => fun
  | [d] => { results := [.lit (.bool true)], args := [d] }
  | _ => none }
def fnExactFldInvRow : OpenClaim := { program := "ytljedbadgfjopaq", sum := "7e2a413b07bddef868aa4d53569845d89681f42eb372ae05c43c17ee70f3c589", func := "loop.example/selvedge/laws.FnExactFldInv", spec := "fnExactFldInv", apart := false }
def FnExactFldInvSaid : Prop := fnExactFldInvRow.holds Try.pinned (OpenSpec.ofChange fnExactFldInvSpec)

/-- ITS FALSE NEIGHBOUR: 'it returns false'. Refute it at one input. -/
def fnExactFldInvWrong : ChangeSpec := { name := "fnExactFldInv", fn := fun _ => fun
  | [d] => { results := [.lit (.bool false)], args := [d] }
  | _ => none }
def FnExactFldInvWrongFalsely : Prop := fnExactFldInvRow.holds Try.pinned (OpenSpec.ofChange fnExactFldInvWrong)

/-- 'laws.FnExactFldFall': WHATEVER THE INPUT: true; the input reads as it did. -/
def fnExactFldFallSpec : ChangeSpec := { name := "fnExactFldFall", fn := fun _ => fun
  | [d1, d2] => { results := [.lit (.bool true)], args := [d1, d2] }
  | _ => none }
def fnExactFldFallRow : OpenClaim := { program := "ytljedbadgfjopaq", sum := "7e2a413b07bddef868aa4d53569845d89681f42eb372ae05c43c17ee70f3c589", func := "loop.example/selvedge/laws.FnExactFldFall", spec := "fnExactFldFall", apart := false }
def FnExactFldFallSaid : Prop := fnExactFldFallRow.holds Try.pinned (OpenSpec.ofChange fnExactFldFallSpec)

/-- ITS FALSE NEIGHBOUR: 'it returns false'. Refute it at one input. -/
def fnExactFldFallWrong : ChangeSpec := { name := "fnExactFldFall", fn := fun _ => fun
  | [d1, d2] => { results := [.lit (.bool false)], args := [d1, d2] }
  | _ => none }
def FnExactFldFallWrongFalsely : Prop := fnExactFldFallRow.holds Try.pinned (OpenSpec.ofChange fnExactFldFallWrong)

/-- 'laws.FnExactFldChoose': WHATEVER THE INPUT: true; the input reads as it did. -/
def fnExactFldChooseSpec : ChangeSpec := { name := "fnExactFldChoose", fn := fun _ => fun
  | [d1, d2] => { results := [.lit (.bool true)], args := [d1, d2] }
  | _ => none }
def fnExactFldChooseRow : OpenClaim := { program := "ytljedbadgfjopaq", sum := "7e2a413b07bddef868aa4d53569845d89681f42eb372ae05c43c17ee70f3c589", func := "loop.example/selvedge/laws.FnExactFldChoose", spec := "fnExactFldChoose", apart := false }
def FnExactFldChooseSaid : Prop := fnExactFldChooseRow.holds Try.pinned (OpenSpec.ofChange fnExactFldChooseSpec)

/-- ITS FALSE NEIGHBOUR: 'it returns false'. Refute it at one input. -/
def fnExactFldChooseWrong : ChangeSpec := { name := "fnExactFldChoose", fn := fun _ => fun
  | [d1, d2] => { results := [.lit (.bool false)], args := [d1, d2] }
  | _ => none }
def FnExactFldChooseWrongFalsely : Prop := fnExactFldChooseRow.holds Try.pinned (OpenSpec.ofChange fnExactFldChooseWrong)

/-- 'laws.FnExactFldSub': WHATEVER THE INPUT: true; the input reads as it did. -/
def fnExactFldSubSpec : ChangeSpec := { name := "fnExactFldSub", fn := fun _ => fun
  | [d1, d2] => { results := [.lit (.bool true)], args := [d1, d2] }
  | _ => none }
def fnExactFldSubRow : OpenClaim := { program := "ytljedbadgfjopaq", sum := "7e2a413b07bddef868aa4d53569845d89681f42eb372ae05c43c17ee70f3c589", func := "loop.example/selvedge/laws.FnExactFldSub", spec := "fnExactFldSub", apart := false }
def FnExactFldSubSaid : Prop := fnExactFldSubRow.holds Try.pinned (OpenSpec.ofChange fnExactFldSubSpec)

/-- ITS FALSE NEIGHBOUR: 'it returns false'. Refute it at one input. -/
def fnExactFldSubWrong : ChangeSpec := { name := "fnExactFldSub", fn := fun _ => fun
  | [d1, d2] => { results := [.lit (.bool false)], args := [d1, d2] }
  | _ => none }
def FnExactFldSubWrongFalsely : Prop := fnExactFldSubRow.holds Try.pinned (OpenSpec.ofChange fnExactFldSubWrong)

/- THE SECOND FORM. 'bulk': how many values and letters a reading holds, each counted each time it is reached (what is shared counts as often as it is met; a slice's spare places count too). A statement '..UptoSaid' is the law's where the arguments, and the package variables that the reading takes, are together of bulk at most 1048576: NARROWER than '..Said'. Prove '..Said' where nothing that the law and all that it calls make is longer than what came in: it says more and counts as full. Else prove '..UptoSaid'. A law counts once. -/
mutual
def uptoBulk {H : Type} : DataW H → Nat
  | .lit (.string bytes) => bytes.length + 1
  | .lit _ => 1
  | .nil => 1
  | .ptr d => uptoBulk d + 1
  | .slice elems spare => uptoBulkAll elems + uptoBulkAll spare + 1
  | .agg parts => uptoBulkAll parts + 1
  | .iface _ d => uptoBulk d + 1
  | .map entries => uptoBulkEntries entries + 1
  | .held _ => 1
def uptoBulkAll {H : Type} : List (DataW H) → Nat
  | [] => 0
  | d :: r => uptoBulk d + uptoBulkAll r
def uptoBulkEntries {H : Type} : List (Lit × DataW H) → Nat
  | [] => 0
  | x :: r => uptoBulkEntry x + uptoBulkEntries r
def uptoBulkEntry {H : Type} : Lit × DataW H → Nat
  | (.string bytes, d) => bytes.length + uptoBulk d + 1
  | (_, d) => uptoBulk d + 1
 end
def uptoSmall : (H : Type) → List (DataW H) → Bool := fun _ ds => decide (uptoBulkAll ds ≤ 1048576)
def OpenSpec.upto (s : _root_.Go.ChangeSpec) : _root_.Go.OpenSpec := { _root_.Go.OpenSpec.ofChange s with cond := some uptoSmall }

/-- 'laws.FnExactFldMul', WHERE WHAT IT READS IS OF BULK AT MOST 1048576: true; the input reads as it did. -/
def fnExactFldMulUptoRow : OpenClaim := { program := "ytljedbadgfjopaq", sum := "7e2a413b07bddef868aa4d53569845d89681f42eb372ae05c43c17ee70f3c589", func := "loop.example/selvedge/laws.FnExactFldMul", spec := "fnExactFldMul", apart := false, narrowed := true }
def FnExactFldMulUptoSaid : Prop := fnExactFldMulUptoRow.holds Try.pinned (OpenSpec.upto fnExactFldMulSpec)

/-- 'laws.FnExactFldPow', WHERE WHAT IT READS IS OF BULK AT MOST 1048576: true; the input reads as it did. -/
def fnExactFldPowUptoRow : OpenClaim := { program := "ytljedbadgfjopaq", sum := "7e2a413b07bddef868aa4d53569845d89681f42eb372ae05c43c17ee70f3c589", func := "loop.example/selvedge/laws.FnExactFldPow", spec := "fnExactFldPow", apart := false, narrowed := true }
def FnExactFldPowUptoSaid : Prop := fnExactFldPowUptoRow.holds Try.pinned (OpenSpec.upto fnExactFldPowSpec)

/-- 'laws.FnExactFldInv', WHERE WHAT IT READS IS OF BULK AT MOST 1048576: true; the input reads as it did. -/
def fnExactFldInvUptoRow : OpenClaim := { program := "ytljedbadgfjopaq", sum := "7e2a413b07bddef868aa4d53569845d89681f42eb372ae05c43c17ee70f3c589", func := "loop.example/selvedge/laws.FnExactFldInv", spec := "fnExactFldInv", apart := false, narrowed := true }
def FnExactFldInvUptoSaid : Prop := fnExactFldInvUptoRow.holds Try.pinned (OpenSpec.upto fnExactFldInvSpec)

/-- 'laws.FnExactFldFall', WHERE WHAT IT READS IS OF BULK AT MOST 1048576: true; the input reads as it did. -/
def fnExactFldFallUptoRow : OpenClaim := { program := "ytljedbadgfjopaq", sum := "7e2a413b07bddef868aa4d53569845d89681f42eb372ae05c43c17ee70f3c589", func := "loop.example/selvedge/laws.FnExactFldFall", spec := "fnExactFldFall", apart := false, narrowed := true }
def FnExactFldFallUptoSaid : Prop := fnExactFldFallUptoRow.holds Try.pinned (OpenSpec.upto fnExactFldFallSpec)

/-- 'laws.FnExactFldChoose', WHERE WHAT IT READS IS OF BULK AT MOST 1048576: true; the input reads as it did. -/
def fnExactFldChooseUptoRow : OpenClaim := { program := "ytljedbadgfjopaq", sum := "7e2a413b07bddef868aa4d53569845d89681f42eb372ae05c43c17ee70f3c589", func := "loop.example/selvedge/laws.FnExactFldChoose", spec := "fnExactFldChoose", apart := false, narrowed := true }
def FnExactFldChooseUptoSaid : Prop := fnExactFldChooseUptoRow.holds Try.pinned (OpenSpec.upto fnExactFldChooseSpec)

/-- 'laws.FnExactFldSub', WHERE WHAT IT READS IS OF BULK AT MOST 1048576: true; the input reads as it did. -/
def fnExactFldSubUptoRow : OpenClaim := { program := "ytljedbadgfjopaq", sum := "7e2a413b07bddef868aa4d53569845d89681f42eb372ae05c43c17ee70f3c589", func := "loop.example/selvedge/laws.FnExactFldSub", spec := "fnExactFldSub", apart := false, narrowed := true }
def FnExactFldSubUptoSaid : Prop := fnExactFldSubUptoRow.holds Try.pinned (OpenSpec.upto fnExactFldSubSpec)

end Rows
end Go.Proofs.Ytljedbadgfjopaq
