/-
  No cell of these rows narrows 'for every input' (looked for: loops, veiled, ifaces, maps, wideKeys, modest, calm, conditions, laid).
  DERIVED. THE GIVEN ROWS OF THIS SEAT. 6 by the template 'for every input the law returns true; each argument reads behind the call as it read before'; 0 by the template 'total and deterministic' (their statements: YtahbekfhoidgjauTotals.lean).
  GIVEN WITH THE SEED: the statements are not yours to turn. If you find one false, say at which input.
  Laid BY PROGRAM, IN A SANDBOX (cutbox-rows.mjs): the forced cells as the released guide's own fill.sh prints them over the translation 4c69c84981967923… (all of the seat's roots in one cut). By AI agents, Wed Nov 11 2026. No macro, syntax, notation, axiom, sorry.
-/
import Derived.Test.YtahbekfhoidgjauChecked
import GoSem.Claim
import GoSem.ClaimJoined
import GoSem.ClaimMapViews
import Derived.JoinedTies
import Derived.KernelRfl
namespace Go.Proofs.Ytahbekfhoidgjau
/- THE CELL 'sum', in the pinned program and in every row, IS THE sha256 OF THE DUMP (.gsa) THAT YtahbekfhoidgjauProg.lean LOADS. Nothing in Lean hashes anything: it is a label: what it is worth is what the hold of that sum in a sandbox is worth. -/
noncomputable def Try.pinned : Pinned := { name := "ytahbekfhoidgjau", sum := "4c69c849819679238d7e200feb0af42c390e685a39e21ad0473633f38cdbdb89", checked := Try.checked }
namespace Rows
def none {H : Type} : Left H := { results := [], args := [] }

/-- 'laws.FnExactPolSub': WHATEVER THE INPUT: true; the input reads as it did. -/
def fnExactPolSubSpec : ChangeSpec := { name := "fnExactPolSub", fn := fun _ => fun
  | [d1, d2] => { results := [.lit (.bool true)], args := [d1, d2] }
  | _ => none }
def fnExactPolSubRow : OpenClaim := { program := "ytahbekfhoidgjau", sum := "4c69c849819679238d7e200feb0af42c390e685a39e21ad0473633f38cdbdb89", func := "loop.example/selvedge/laws.FnExactPolSub", spec := "fnExactPolSub", unfollowed := true, recurses := true, plainKeys := false, apart := false }
def FnExactPolSubSaid : Prop := fnExactPolSubRow.holds Try.pinned (OpenSpec.ofChange fnExactPolSubSpec)

/-- ITS FALSE NEIGHBOUR: 'it returns false'. Refute it at one input. -/
def fnExactPolSubWrong : ChangeSpec := { name := "fnExactPolSub", fn := fun _ => fun
  | [d1, d2] => { results := [.lit (.bool false)], args := [d1, d2] }
  | _ => none }
def FnExactPolSubWrongFalsely : Prop := fnExactPolSubRow.holds Try.pinned (OpenSpec.ofChange fnExactPolSubWrong)

/-- 'laws.FnExactPolAt': WHATEVER THE INPUT: true; the input reads as it did. -/
def fnExactPolAtSpec : ChangeSpec := { name := "fnExactPolAt", fn := fun _ => fun
  | [d1, d2] => { results := [.lit (.bool true)], args := [d1, d2] }
  | _ => none }
def fnExactPolAtRow : OpenClaim := { program := "ytahbekfhoidgjau", sum := "4c69c849819679238d7e200feb0af42c390e685a39e21ad0473633f38cdbdb89", func := "loop.example/selvedge/laws.FnExactPolAt", spec := "fnExactPolAt", plainKeys := false, apart := false }
def FnExactPolAtSaid : Prop := fnExactPolAtRow.holds Try.pinned (OpenSpec.ofChange fnExactPolAtSpec)

/-- ITS FALSE NEIGHBOUR: 'it returns false'. Refute it at one input. -/
def fnExactPolAtWrong : ChangeSpec := { name := "fnExactPolAt", fn := fun _ => fun
  | [d1, d2] => { results := [.lit (.bool false)], args := [d1, d2] }
  | _ => none }
def FnExactPolAtWrongFalsely : Prop := fnExactPolAtRow.holds Try.pinned (OpenSpec.ofChange fnExactPolAtWrong)

/-- 'laws.FnExactPolSame': WHATEVER THE INPUT: true; the input reads as it did. -/
def fnExactPolSameSpec : ChangeSpec := { name := "fnExactPolSame", fn := fun _ => fun
  | [d1, d2] => { results := [.lit (.bool true)], args := [d1, d2] }
  | _ => none }
def fnExactPolSameRow : OpenClaim := { program := "ytahbekfhoidgjau", sum := "4c69c849819679238d7e200feb0af42c390e685a39e21ad0473633f38cdbdb89", func := "loop.example/selvedge/laws.FnExactPolSame", spec := "fnExactPolSame", plainKeys := false, apart := false }
def FnExactPolSameSaid : Prop := fnExactPolSameRow.holds Try.pinned (OpenSpec.ofChange fnExactPolSameSpec)

/-- ITS FALSE NEIGHBOUR: 'it returns false'. Refute it at one input. -/
def fnExactPolSameWrong : ChangeSpec := { name := "fnExactPolSame", fn := fun _ => fun
  | [d1, d2] => { results := [.lit (.bool false)], args := [d1, d2] }
  | _ => none }
def FnExactPolSameWrongFalsely : Prop := fnExactPolSameRow.holds Try.pinned (OpenSpec.ofChange fnExactPolSameWrong)

/-- 'laws.FnExactWylMul': WHATEVER THE INPUT: true; the input reads as it did. -/
def fnExactWylMulSpec : ChangeSpec := { name := "fnExactWylMul", fn := fun _ => fun
  | [d1, d2] => { results := [.lit (.bool true)], args := [d1, d2] }
  | _ => none }
def fnExactWylMulRow : OpenClaim := { program := "ytahbekfhoidgjau", sum := "4c69c849819679238d7e200feb0af42c390e685a39e21ad0473633f38cdbdb89", func := "loop.example/selvedge/laws.FnExactWylMul", spec := "fnExactWylMul", unfollowed := true, recurses := true, plainKeys := false, apart := false }
def FnExactWylMulSaid : Prop := fnExactWylMulRow.holds Try.pinned (OpenSpec.ofChange fnExactWylMulSpec)

/-- ITS FALSE NEIGHBOUR: 'it returns false'. Refute it at one input. -/
def fnExactWylMulWrong : ChangeSpec := { name := "fnExactWylMul", fn := fun _ => fun
  | [d1, d2] => { results := [.lit (.bool false)], args := [d1, d2] }
  | _ => none }
def FnExactWylMulWrongFalsely : Prop := fnExactWylMulRow.holds Try.pinned (OpenSpec.ofChange fnExactWylMulWrong)

/-- 'laws.FnExactWylPow': WHATEVER THE INPUT: true; the input reads as it did. -/
def fnExactWylPowSpec : ChangeSpec := { name := "fnExactWylPow", fn := fun _ => fun
  | [d1, d2] => { results := [.lit (.bool true)], args := [d1, d2] }
  | _ => none }
def fnExactWylPowRow : OpenClaim := { program := "ytahbekfhoidgjau", sum := "4c69c849819679238d7e200feb0af42c390e685a39e21ad0473633f38cdbdb89", func := "loop.example/selvedge/laws.FnExactWylPow", spec := "fnExactWylPow", unfollowed := true, recurses := true, plainKeys := false, apart := false }
def FnExactWylPowSaid : Prop := fnExactWylPowRow.holds Try.pinned (OpenSpec.ofChange fnExactWylPowSpec)

/-- ITS FALSE NEIGHBOUR: 'it returns false'. Refute it at one input. -/
def fnExactWylPowWrong : ChangeSpec := { name := "fnExactWylPow", fn := fun _ => fun
  | [d1, d2] => { results := [.lit (.bool false)], args := [d1, d2] }
  | _ => none }
def FnExactWylPowWrongFalsely : Prop := fnExactWylPowRow.holds Try.pinned (OpenSpec.ofChange fnExactWylPowWrong)

/-- 'laws.FnExactWylApart': WHATEVER THE INPUT: true; the input reads as it did. -/
def fnExactWylApartSpec : ChangeSpec := { name := "fnExactWylApart", fn := fun _ => fun
  | [d1, d2] => { results := [.lit (.bool true)], args := [d1, d2] }
  | _ => none }
def fnExactWylApartRow : OpenClaim := { program := "ytahbekfhoidgjau", sum := "4c69c849819679238d7e200feb0af42c390e685a39e21ad0473633f38cdbdb89", func := "loop.example/selvedge/laws.FnExactWylApart", spec := "fnExactWylApart", unfollowed := true, recurses := true, plainKeys := false, apart := false }
def FnExactWylApartSaid : Prop := fnExactWylApartRow.holds Try.pinned (OpenSpec.ofChange fnExactWylApartSpec)

/-- ITS FALSE NEIGHBOUR: 'it returns false'. Refute it at one input. -/
def fnExactWylApartWrong : ChangeSpec := { name := "fnExactWylApart", fn := fun _ => fun
  | [d1, d2] => { results := [.lit (.bool false)], args := [d1, d2] }
  | _ => none }
def FnExactWylApartWrongFalsely : Prop := fnExactWylApartRow.holds Try.pinned (OpenSpec.ofChange fnExactWylApartWrong)

/- THE SECOND FORM. 'bulk': how many values and letters a reading holds, each counted each time it is reached (what is shared counts as often as it is met; a slice's spare places count too). A statement '..UptoSaid' is the law's where the arguments, and the package variables that the reading takes, are together of bulk at most 1048576: NARROWER than '..Said'. Prove '..Said' where nothing that the law and all that it calls make is longer than what came in: it says more and counts as full. Else prove '..UptoSaid'. A law counts once. -/
mutual
def uptoBulk {H : Type} : DataW H → Nat
  | .lit (.string bytes) => bytes.length + 1
  | .lit _ => 1
  | .nil => 1
  | .ptr d => uptoBulk d + 1
  | .slice elems spare => uptoBulkAll elems + uptoBulkAll spare + 1
  | .agg parts => uptoBulkAll parts + 1
  | .iface _ d => uptoBulk d + 1
  | .map entries => uptoBulkEntries entries + 1
  | .held _ => 1
def uptoBulkAll {H : Type} : List (DataW H) → Nat
  | [] => 0
  | d :: r => uptoBulk d + uptoBulkAll r
def uptoBulkEntries {H : Type} : List (Lit × DataW H) → Nat
  | [] => 0
  | x :: r => uptoBulkEntry x + uptoBulkEntries r
def uptoBulkEntry {H : Type} : Lit × DataW H → Nat
  | (.string bytes, d) => bytes.length + uptoBulk d + 1
  | (_, d) => uptoBulk d + 1
 end
def uptoSmall : (H : Type) → List (DataW H) → Bool := fun _ ds => decide (uptoBulkAll ds ≤ 1048576)
def OpenSpec.upto (s : _root_.Go.ChangeSpec) : _root_.Go.OpenSpec := { _root_.Go.OpenSpec.ofChange s with cond := some uptoSmall }

/-- 'laws.FnExactPolSub', WHERE WHAT IT READS IS OF BULK AT MOST 1048576: true; the input reads as it did. -/
def fnExactPolSubUptoRow : OpenClaim := { program := "ytahbekfhoidgjau", sum := "4c69c849819679238d7e200feb0af42c390e685a39e21ad0473633f38cdbdb89", func := "loop.example/selvedge/laws.FnExactPolSub", spec := "fnExactPolSub", unfollowed := true, recurses := true, plainKeys := false, apart := false, narrowed := true }
def FnExactPolSubUptoSaid : Prop := fnExactPolSubUptoRow.holds Try.pinned (OpenSpec.upto fnExactPolSubSpec)

/-- 'laws.FnExactPolAt', WHERE WHAT IT READS IS OF BULK AT MOST 1048576: true; the input reads as it did. -/
def fnExactPolAtUptoRow : OpenClaim := { program := "ytahbekfhoidgjau", sum := "4c69c849819679238d7e200feb0af42c390e685a39e21ad0473633f38cdbdb89", func := "loop.example/selvedge/laws.FnExactPolAt", spec := "fnExactPolAt", plainKeys := false, apart := false, narrowed := true }
def FnExactPolAtUptoSaid : Prop := fnExactPolAtUptoRow.holds Try.pinned (OpenSpec.upto fnExactPolAtSpec)

/-- 'laws.FnExactPolSame', WHERE WHAT IT READS IS OF BULK AT MOST 1048576: true; the input reads as it did. -/
def fnExactPolSameUptoRow : OpenClaim := { program := "ytahbekfhoidgjau", sum := "4c69c849819679238d7e200feb0af42c390e685a39e21ad0473633f38cdbdb89", func := "loop.example/selvedge/laws.FnExactPolSame", spec := "fnExactPolSame", plainKeys := false, apart := false, narrowed := true }
def FnExactPolSameUptoSaid : Prop := fnExactPolSameUptoRow.holds Try.pinned (OpenSpec.upto fnExactPolSameSpec)

/-- 'laws.FnExactWylMul', WHERE WHAT IT READS IS OF BULK AT MOST 1048576: true; the input reads as it did. -/
def fnExactWylMulUptoRow : OpenClaim := { program := "ytahbekfhoidgjau", sum := "4c69c849819679238d7e200feb0af42c390e685a39e21ad0473633f38cdbdb89", func := "loop.example/selvedge/laws.FnExactWylMul", spec := "fnExactWylMul", unfollowed := true, recurses := true, plainKeys := false, apart := false, narrowed := true }
def FnExactWylMulUptoSaid : Prop := fnExactWylMulUptoRow.holds Try.pinned (OpenSpec.upto fnExactWylMulSpec)

/-- 'laws.FnExactWylPow', WHERE WHAT IT READS IS OF BULK AT MOST 1048576: true; the input reads as it did. -/
def fnExactWylPowUptoRow : OpenClaim := { program := "ytahbekfhoidgjau", sum := "4c69c849819679238d7e200feb0af42c390e685a39e21ad0473633f38cdbdb89", func := "loop.example/selvedge/laws.FnExactWylPow", spec := "fnExactWylPow", unfollowed := true, recurses := true, plainKeys := false, apart := false, narrowed := true }
def FnExactWylPowUptoSaid : Prop := fnExactWylPowUptoRow.holds Try.pinned (OpenSpec.upto fnExactWylPowSpec)

/-- 'laws.FnExactWylApart', WHERE WHAT IT READS IS OF BULK AT MOST 1048576: true; the input reads as it did. -/
def fnExactWylApartUptoRow : OpenClaim := { program := "ytahbekfhoidgjau", sum := "4c69c849819679238d7e200feb0af42c390e685a39e21ad0473633f38cdbdb89", func := "loop.example/selvedge/laws.FnExactWylApart", spec := "fnExactWylApart", unfollowed := true, recurses := true, plainKeys := false, apart := false, narrowed := true }
def FnExactWylApartUptoSaid : Prop := fnExactWylApartUptoRow.holds Try.pinned (OpenSpec.upto fnExactWylApartSpec)

end Rows
end Go.Proofs.Ytahbekfhoidgjau
