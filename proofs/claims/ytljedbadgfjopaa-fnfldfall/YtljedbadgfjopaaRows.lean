/-
  No cell of these rows narrows 'for every input' (looked for: loops, veiled, ifaces, maps, wideKeys, modest, calm, conditions, laid).
  DERIVED. THE GIVEN ROWS OF THIS SEAT. 6 by the template 'for every input the law returns true; each argument reads behind the call as it read before'; 0 by the template 'total and deterministic' (their statements: YtljedbadgfjopaaTotals.lean).
  GIVEN WITH THE SEED: the statements are not yours to turn. If you find one false, say at which input.
  Laid BY PROGRAM, IN A SANDBOX (cutbox-rows.mjs): the forced cells as the released guide's own fill.sh prints them over the translation e588a2c32e4d92cf… (all of the seat's roots in one cut). By AI agents, Wed Nov 11 2026. No macro, syntax, notation, axiom, sorry.
-/
import Derived.Test.YtljedbadgfjopaaChecked
import GoSem.Claim
import GoSem.ClaimJoined
import GoSem.ClaimMapViews
import Derived.JoinedTies
import Derived.KernelRfl
namespace Go.Proofs.Ytljedbadgfjopaa
/- THE CELL 'sum', in the pinned program and in every row, IS THE sha256 OF THE DUMP (.gsa) THAT YtljedbadgfjopaaProg.lean LOADS. Nothing in Lean hashes anything: it is a label: what it is worth is what the hold of that sum in a sandbox is worth. -/
noncomputable def Try.pinned : Pinned := { name := "ytljedbadgfjopaa", sum := "e588a2c32e4d92cfeb5d73e8018c554140f603486c297d5cf00ddbcce7361290", checked := Try.checked }
namespace Rows
def none {H : Type} : Left H := { results := [], args := [] }

/-- 'laws.FnFldAdd': WHATEVER THE INPUT: true; the input reads as it did. -/
def fnFldAddSpec : ChangeSpec := { name := "fnFldAdd", fn := fun _ => fun
  | [d1, d2] => { results := [.lit (.bool true)], args := [d1, d2] }
  | _ => none }
def fnFldAddRow : OpenClaim := { program := "ytljedbadgfjopaa", sum := "e588a2c32e4d92cfeb5d73e8018c554140f603486c297d5cf00ddbcce7361290", func := "loop.example/selvedge/laws.FnFldAdd", spec := "fnFldAdd", apart := false }
def FnFldAddSaid : Prop := fnFldAddRow.holds Try.pinned (OpenSpec.ofChange fnFldAddSpec)

/-- ITS FALSE NEIGHBOUR: 'it returns false'. Refute it at one input. -/
def fnFldAddWrong : ChangeSpec := { name := "fnFldAdd", fn := fun _ => fun
  | [d1, d2] => { results := [.lit (.bool false)], args := [d1, d2] }
  | _ => none }
def FnFldAddWrongFalsely : Prop := fnFldAddRow.holds Try.pinned (OpenSpec.ofChange fnFldAddWrong)

/-- 'laws.FnFldMul': WHATEVER THE INPUT: true; the input reads as it did. -/
def fnFldMulSpec : ChangeSpec := { name := "fnFldMul", fn := fun _ => fun
  | [d1, d2] => { results := [.lit (.bool true)], args := [d1, d2] }
  | _ => none }
def fnFldMulRow : OpenClaim := { program := "ytljedbadgfjopaa", sum := "e588a2c32e4d92cfeb5d73e8018c554140f603486c297d5cf00ddbcce7361290", func := "loop.example/selvedge/laws.FnFldMul", spec := "fnFldMul", apart := false }
def FnFldMulSaid : Prop := fnFldMulRow.holds Try.pinned (OpenSpec.ofChange fnFldMulSpec)

/-- ITS FALSE NEIGHBOUR: 'it returns false'. Refute it at one input. -/
def fnFldMulWrong : ChangeSpec := { name := "fnFldMul", fn := fun _ => fun
  | [d1, d2] => { results := [.lit (.bool false)], args := [d1, d2] }
  | _ => none }
def FnFldMulWrongFalsely : Prop := fnFldMulRow.holds Try.pinned (OpenSpec.ofChange fnFldMulWrong)

/-- 'laws.FnFldSub': WHATEVER THE INPUT: true; the input reads as it did. -/
def fnFldSubSpec : ChangeSpec := { name := "fnFldSub", fn := fun _ => fun
  | [d] => { results := [.lit (.bool true)], args := [d] }
  | _ => none }
def fnFldSubRow : OpenClaim := { program := "ytljedbadgfjopaa", sum := "e588a2c32e4d92cfeb5d73e8018c554140f603486c297d5cf00ddbcce7361290", func := "loop.example/selvedge/laws.FnFldSub", spec := "fnFldSub", apart := false }
def FnFldSubSaid : Prop := fnFldSubRow.holds Try.pinned (OpenSpec.ofChange fnFldSubSpec)

/-- ITS FALSE NEIGHBOUR: 'it returns false'. Refute it at one input. -/
def fnFldSubWrong : ChangeSpec := { name := "fnFldSub", fn := fun _ => fun
  | [d] => { results := [.lit (.bool false)], args := [d] }
  | _ => none }
def FnFldSubWrongFalsely : Prop := fnFldSubRow.holds Try.pinned (OpenSpec.ofChange fnFldSubWrong)

/-- 'laws.FnFldDiv': WHATEVER THE INPUT: true; the input reads as it did. -/
def fnFldDivSpec : ChangeSpec := { name := "fnFldDiv", fn := fun _ => fun
  | [d] => { results := [.lit (.bool true)], args := [d] }
  | _ => none }
def fnFldDivRow : OpenClaim := { program := "ytljedbadgfjopaa", sum := "e588a2c32e4d92cfeb5d73e8018c554140f603486c297d5cf00ddbcce7361290", func := "loop.example/selvedge/laws.FnFldDiv", spec := "fnFldDiv", apart := false }
def FnFldDivSaid : Prop := fnFldDivRow.holds Try.pinned (OpenSpec.ofChange fnFldDivSpec)

/-- ITS FALSE NEIGHBOUR: 'it returns false'. Refute it at one input. -/
def fnFldDivWrong : ChangeSpec := { name := "fnFldDiv", fn := fun _ => fun
  | [d] => { results := [.lit (.bool false)], args := [d] }
  | _ => none }
def FnFldDivWrongFalsely : Prop := fnFldDivRow.holds Try.pinned (OpenSpec.ofChange fnFldDivWrong)

/-- 'laws.FnFldPow': WHATEVER THE INPUT: true; the input reads as it did. -/
def fnFldPowSpec : ChangeSpec := { name := "fnFldPow", fn := fun _ => fun
  | [d] => { results := [.lit (.bool true)], args := [d] }
  | _ => none }
def fnFldPowRow : OpenClaim := { program := "ytljedbadgfjopaa", sum := "e588a2c32e4d92cfeb5d73e8018c554140f603486c297d5cf00ddbcce7361290", func := "loop.example/selvedge/laws.FnFldPow", spec := "fnFldPow", apart := false }
def FnFldPowSaid : Prop := fnFldPowRow.holds Try.pinned (OpenSpec.ofChange fnFldPowSpec)

/-- ITS FALSE NEIGHBOUR: 'it returns false'. Refute it at one input. -/
def fnFldPowWrong : ChangeSpec := { name := "fnFldPow", fn := fun _ => fun
  | [d] => { results := [.lit (.bool false)], args := [d] }
  | _ => none }
def FnFldPowWrongFalsely : Prop := fnFldPowRow.holds Try.pinned (OpenSpec.ofChange fnFldPowWrong)

/-- 'laws.FnFldFall': WHATEVER THE INPUT: true; the input reads as it did. -/
def fnFldFallSpec : ChangeSpec := { name := "fnFldFall", fn := fun _ => fun
  | [d] => { results := [.lit (.bool true)], args := [d] }
  | _ => none }
def fnFldFallRow : OpenClaim := { program := "ytljedbadgfjopaa", sum := "e588a2c32e4d92cfeb5d73e8018c554140f603486c297d5cf00ddbcce7361290", func := "loop.example/selvedge/laws.FnFldFall", spec := "fnFldFall", apart := false }
def FnFldFallSaid : Prop := fnFldFallRow.holds Try.pinned (OpenSpec.ofChange fnFldFallSpec)

/-- ITS FALSE NEIGHBOUR: 'it returns false'. Refute it at one input. -/
def fnFldFallWrong : ChangeSpec := { name := "fnFldFall", fn := fun _ => fun
  | [d] => { results := [.lit (.bool false)], args := [d] }
  | _ => none }
def FnFldFallWrongFalsely : Prop := fnFldFallRow.holds Try.pinned (OpenSpec.ofChange fnFldFallWrong)

/- THE SECOND FORM. 'bulk': how many values and letters a reading holds, each counted each time it is reached (what is shared counts as often as it is met; a slice's spare places count too). A statement '..UptoSaid' is the law's where the arguments, and the package variables that the reading takes, are together of bulk at most 1048576: NARROWER than '..Said'. Prove '..Said' where nothing that the law and all that it calls make is longer than what came in: it says more and counts as full. Else prove '..UptoSaid'. A law counts once. -/
mutual
def uptoBulk {H : Type} : DataW H → Nat
  | .lit (.string bytes) => bytes.length + 1
  | .lit _ => 1
  | .nil => 1
  | .ptr d => uptoBulk d + 1
  | .slice elems spare => uptoBulkAll elems + uptoBulkAll spare + 1
  | .agg parts => uptoBulkAll parts + 1
  | .iface _ d => uptoBulk d + 1
  | .map entries => uptoBulkEntries entries + 1
  | .held _ => 1
def uptoBulkAll {H : Type} : List (DataW H) → Nat
  | [] => 0
  | d :: r => uptoBulk d + uptoBulkAll r
def uptoBulkEntries {H : Type} : List (Lit × DataW H) → Nat
  | [] => 0
  | x :: r => uptoBulkEntry x + uptoBulkEntries r
def uptoBulkEntry {H : Type} : Lit × DataW H → Nat
  | (.string bytes, d) => bytes.length + uptoBulk d + 1
  | (_, d) => uptoBulk d + 1
 end
def uptoSmall : (H : Type) → List (DataW H) → Bool := fun _ ds => decide (uptoBulkAll ds ≤ 1048576)
def OpenSpec.upto (s : _root_.Go.ChangeSpec) : _root_.Go.OpenSpec := { _root_.Go.OpenSpec.ofChange s with cond := some uptoSmall }

/-- 'laws.FnFldAdd', WHERE WHAT IT READS IS OF BULK AT MOST 1048576: true; the input reads as it did. -/
def fnFldAddUptoRow : OpenClaim := { program := "ytljedbadgfjopaa", sum := "e588a2c32e4d92cfeb5d73e8018c554140f603486c297d5cf00ddbcce7361290", func := "loop.example/selvedge/laws.FnFldAdd", spec := "fnFldAdd", apart := false, narrowed := true }
def FnFldAddUptoSaid : Prop := fnFldAddUptoRow.holds Try.pinned (OpenSpec.upto fnFldAddSpec)

/-- 'laws.FnFldMul', WHERE WHAT IT READS IS OF BULK AT MOST 1048576: true; the input reads as it did. -/
def fnFldMulUptoRow : OpenClaim := { program := "ytljedbadgfjopaa", sum := "e588a2c32e4d92cfeb5d73e8018c554140f603486c297d5cf00ddbcce7361290", func := "loop.example/selvedge/laws.FnFldMul", spec := "fnFldMul", apart := false, narrowed := true }
def FnFldMulUptoSaid : Prop := fnFldMulUptoRow.holds Try.pinned (OpenSpec.upto fnFldMulSpec)

/-- 'laws.FnFldSub', WHERE WHAT IT READS IS OF BULK AT MOST 1048576: true; the input reads as it did. -/
def fnFldSubUptoRow : OpenClaim := { program := "ytljedbadgfjopaa", sum := "e588a2c32e4d92cfeb5d73e8018c554140f603486c297d5cf00ddbcce7361290", func := "loop.example/selvedge/laws.FnFldSub", spec := "fnFldSub", apart := false, narrowed := true }
def FnFldSubUptoSaid : Prop := fnFldSubUptoRow.holds Try.pinned (OpenSpec.upto fnFldSubSpec)

/-- 'laws.FnFldDiv', WHERE WHAT IT READS IS OF BULK AT MOST 1048576: true; the input reads as it did. -/
def fnFldDivUptoRow : OpenClaim := { program := "ytljedbadgfjopaa", sum := "e588a2c32e4d92cfeb5d73e8018c554140f603486c297d5cf00ddbcce7361290", func := "loop.example/selvedge/laws.FnFldDiv", spec := "fnFldDiv", apart := false, narrowed := true }
def FnFldDivUptoSaid : Prop := fnFldDivUptoRow.holds Try.pinned (OpenSpec.upto fnFldDivSpec)

/-- 'laws.FnFldPow', WHERE WHAT IT READS IS OF BULK AT MOST 1048576: true; the input reads as it did. -/
def fnFldPowUptoRow : OpenClaim := { program := "ytljedbadgfjopaa", sum := "e588a2c32e4d92cfeb5d73e8018c554140f603486c297d5cf00ddbcce7361290", func := "loop.example/selvedge/laws.FnFldPow", spec := "fnFldPow", apart := false, narrowed := true }
def FnFldPowUptoSaid : Prop := fnFldPowUptoRow.holds Try.pinned (OpenSpec.upto fnFldPowSpec)

/-- 'laws.FnFldFall', WHERE WHAT IT READS IS OF BULK AT MOST 1048576: true; the input reads as it did. -/
def fnFldFallUptoRow : OpenClaim := { program := "ytljedbadgfjopaa", sum := "e588a2c32e4d92cfeb5d73e8018c554140f603486c297d5cf00ddbcce7361290", func := "loop.example/selvedge/laws.FnFldFall", spec := "fnFldFall", apart := false, narrowed := true }
def FnFldFallUptoSaid : Prop := fnFldFallUptoRow.holds Try.pinned (OpenSpec.upto fnFldFallSpec)

end Rows
end Go.Proofs.Ytljedbadgfjopaa
