/-
  No cell of these rows narrows 'for every input' (looked for: loops, veiled, ifaces, maps, wideKeys, modest, calm, conditions, laid).
  DERIVED. THE GIVEN ROWS OF THIS SEAT. 6 by the template 'for every input the law returns true; each argument reads behind the call as it read before'; 0 by the template 'total and deterministic' (their statements: YtddfpjjeoojlmaaTotals.lean).
  GIVEN WITH THE SEED: the statements are not yours to turn. If you find one false, say at which input.
  Laid BY PROGRAM, IN A SANDBOX (cutbox-rows.mjs): the forced cells as the released guide's own fill.sh prints them over the translation 186177a793458576… (all of the seat's roots in one cut). By AI agents, Wed Nov 11 2026. No macro, syntax, notation, axiom, sorry.
-/
import Derived.Test.YtddfpjjeoojlmaaChecked
import GoSem.Claim
import GoSem.ClaimJoined
import GoSem.ClaimMapViews
import Derived.JoinedTies
import Derived.KernelRfl
namespace Go.Proofs.Ytddfpjjeoojlmaa
/- THE CELL 'sum', in the pinned program and in every row, IS THE sha256 OF THE DUMP (.gsa) THAT YtddfpjjeoojlmaaProg.lean LOADS. Nothing in Lean hashes anything: it is a label: what it is worth is what the hold of that sum in a sandbox is worth. -/
noncomputable def Try.pinned : Pinned := { name := "ytddfpjjeoojlmaa", sum := "186177a7934585768738dc3370962b0696d46a6784037e03bdd817324c61fe56", checked := Try.checked }
namespace Rows
def none {H : Type} : Left H := { results := [], args := [] }

/-- 'laws.FnPolAdd': WHATEVER THE INPUT: true; the input reads as it did. -/
def fnPolAddSpec : ChangeSpec := { name := "fnPolAdd", fn := fun _ => fun
  | [d1, d2] => { results := [.lit (.bool true)], args := [d1, d2] }
  | _ => none }
def fnPolAddRow : OpenClaim := { program := "ytddfpjjeoojlmaa", sum := "186177a7934585768738dc3370962b0696d46a6784037e03bdd817324c61fe56", func := "loop.example/selvedge/laws.FnPolAdd", spec := "fnPolAdd", unfollowed := true, recurses := true, plainKeys := false, apart := false }
def FnPolAddSaid : Prop := fnPolAddRow.holds Try.pinned (OpenSpec.ofChange fnPolAddSpec)

/-- ITS FALSE NEIGHBOUR: 'it returns false'. Refute it at one input. -/
def fnPolAddWrong : ChangeSpec := { name := "fnPolAdd", fn := fun _ => fun
  | [d1, d2] => { results := [.lit (.bool false)], args := [d1, d2] }
  | _ => none }
def FnPolAddWrongFalsely : Prop := fnPolAddRow.holds Try.pinned (OpenSpec.ofChange fnPolAddWrong)

/-- 'laws.FnPolSub': WHATEVER THE INPUT: true; the input reads as it did. -/
def fnPolSubSpec : ChangeSpec := { name := "fnPolSub", fn := fun _ => fun
  | [d] => { results := [.lit (.bool true)], args := [d] }
  | _ => none }
def fnPolSubRow : OpenClaim := { program := "ytddfpjjeoojlmaa", sum := "186177a7934585768738dc3370962b0696d46a6784037e03bdd817324c61fe56", func := "loop.example/selvedge/laws.FnPolSub", spec := "fnPolSub", unfollowed := true, recurses := true, plainKeys := false, apart := false }
def FnPolSubSaid : Prop := fnPolSubRow.holds Try.pinned (OpenSpec.ofChange fnPolSubSpec)

/-- ITS FALSE NEIGHBOUR: 'it returns false'. Refute it at one input. -/
def fnPolSubWrong : ChangeSpec := { name := "fnPolSub", fn := fun _ => fun
  | [d] => { results := [.lit (.bool false)], args := [d] }
  | _ => none }
def FnPolSubWrongFalsely : Prop := fnPolSubRow.holds Try.pinned (OpenSpec.ofChange fnPolSubWrong)

/-- 'laws.FnPolScale': WHATEVER THE INPUT: true; the input reads as it did. -/
def fnPolScaleSpec : ChangeSpec := { name := "fnPolScale", fn := fun _ => fun
  | [d1, d2] => { results := [.lit (.bool true)], args := [d1, d2] }
  | _ => none }
def fnPolScaleRow : OpenClaim := { program := "ytddfpjjeoojlmaa", sum := "186177a7934585768738dc3370962b0696d46a6784037e03bdd817324c61fe56", func := "loop.example/selvedge/laws.FnPolScale", spec := "fnPolScale", unfollowed := true, recurses := true, plainKeys := false, apart := false }
def FnPolScaleSaid : Prop := fnPolScaleRow.holds Try.pinned (OpenSpec.ofChange fnPolScaleSpec)

/-- ITS FALSE NEIGHBOUR: 'it returns false'. Refute it at one input. -/
def fnPolScaleWrong : ChangeSpec := { name := "fnPolScale", fn := fun _ => fun
  | [d1, d2] => { results := [.lit (.bool false)], args := [d1, d2] }
  | _ => none }
def FnPolScaleWrongFalsely : Prop := fnPolScaleRow.holds Try.pinned (OpenSpec.ofChange fnPolScaleWrong)

/-- 'laws.FnPolSame': WHATEVER THE INPUT: true; the input reads as it did. -/
def fnPolSameSpec : ChangeSpec := { name := "fnPolSame", fn := fun _ => fun
  | [d] => { results := [.lit (.bool true)], args := [d] }
  | _ => none }
def fnPolSameRow : OpenClaim := { program := "ytddfpjjeoojlmaa", sum := "186177a7934585768738dc3370962b0696d46a6784037e03bdd817324c61fe56", func := "loop.example/selvedge/laws.FnPolSame", spec := "fnPolSame", unfollowed := true, recurses := true, plainKeys := false, apart := false }
def FnPolSameSaid : Prop := fnPolSameRow.holds Try.pinned (OpenSpec.ofChange fnPolSameSpec)

/-- ITS FALSE NEIGHBOUR: 'it returns false'. Refute it at one input. -/
def fnPolSameWrong : ChangeSpec := { name := "fnPolSame", fn := fun _ => fun
  | [d] => { results := [.lit (.bool false)], args := [d] }
  | _ => none }
def FnPolSameWrongFalsely : Prop := fnPolSameRow.holds Try.pinned (OpenSpec.ofChange fnPolSameWrong)

/-- 'laws.FnPolFree': WHATEVER THE INPUT: true; the input reads as it did. -/
def fnPolFreeSpec : ChangeSpec := { name := "fnPolFree", fn := fun _ => fun
  | [d1, d2] => { results := [.lit (.bool true)], args := [d1, d2] }
  | _ => none }
def fnPolFreeRow : OpenClaim := { program := "ytddfpjjeoojlmaa", sum := "186177a7934585768738dc3370962b0696d46a6784037e03bdd817324c61fe56", func := "loop.example/selvedge/laws.FnPolFree", spec := "fnPolFree", unfollowed := true, recurses := true, plainKeys := false, apart := false }
def FnPolFreeSaid : Prop := fnPolFreeRow.holds Try.pinned (OpenSpec.ofChange fnPolFreeSpec)

/-- ITS FALSE NEIGHBOUR: 'it returns false'. Refute it at one input. -/
def fnPolFreeWrong : ChangeSpec := { name := "fnPolFree", fn := fun _ => fun
  | [d1, d2] => { results := [.lit (.bool false)], args := [d1, d2] }
  | _ => none }
def FnPolFreeWrongFalsely : Prop := fnPolFreeRow.holds Try.pinned (OpenSpec.ofChange fnPolFreeWrong)

/-- 'laws.FnFilSum': WHATEVER THE INPUT: true; the input reads as it did. -/
def fnFilSumSpec : ChangeSpec := { name := "fnFilSum", fn := fun _ => fun
  | [d] => { results := [.lit (.bool true)], args := [d] }
  | _ => none }
def fnFilSumRow : OpenClaim := { program := "ytddfpjjeoojlmaa", sum := "186177a7934585768738dc3370962b0696d46a6784037e03bdd817324c61fe56", func := "loop.example/selvedge/laws.FnFilSum", spec := "fnFilSum", unfollowed := true, recurses := true, plainKeys := false, apart := false }
def FnFilSumSaid : Prop := fnFilSumRow.holds Try.pinned (OpenSpec.ofChange fnFilSumSpec)

/-- ITS FALSE NEIGHBOUR: 'it returns false'. Refute it at one input. -/
def fnFilSumWrong : ChangeSpec := { name := "fnFilSum", fn := fun _ => fun
  | [d] => { results := [.lit (.bool false)], args := [d] }
  | _ => none }
def FnFilSumWrongFalsely : Prop := fnFilSumRow.holds Try.pinned (OpenSpec.ofChange fnFilSumWrong)

/- THE SECOND FORM. 'bulk': how many values and letters a reading holds, each counted each time it is reached (what is shared counts as often as it is met; a slice's spare places count too). A statement '..UptoSaid' is the law's where the arguments, and the package variables that the reading takes, are together of bulk at most 1048576: NARROWER than '..Said'. Prove '..Said' where nothing that the law and all that it calls make is longer than what came in: it says more and counts as full. Else prove '..UptoSaid'. A law counts once. -/
mutual
def uptoBulk {H : Type} : DataW H → Nat
  | .lit (.string bytes) => bytes.length + 1
  | .lit _ => 1
  | .nil => 1
  | .ptr d => uptoBulk d + 1
  | .slice elems spare => uptoBulkAll elems + uptoBulkAll spare + 1
  | .agg parts => uptoBulkAll parts + 1
  | .iface _ d => uptoBulk d + 1
  | .map entries => uptoBulkEntries entries + 1
  | .held _ => 1
def uptoBulkAll {H : Type} : List (DataW H) → Nat
  | [] => 0
  | d :: r => uptoBulk d + uptoBulkAll r
def uptoBulkEntries {H : Type} : List (Lit × DataW H) → Nat
  | [] => 0
  | x :: r => uptoBulkEntry x + uptoBulkEntries r
def uptoBulkEntry {H : Type} : Lit × DataW H → Nat
  | (.string bytes, d) => bytes.length + uptoBulk d + 1
  | (_, d) => uptoBulk d + 1
 end
def uptoSmall : (H : Type) → List (DataW H) → Bool := fun _ ds => decide (uptoBulkAll ds ≤ 1048576)
def OpenSpec.upto (s : _root_.Go.ChangeSpec) : _root_.Go.OpenSpec := { _root_.Go.OpenSpec.ofChange s with cond := some uptoSmall }

/-- 'laws.FnPolAdd', WHERE WHAT IT READS IS OF BULK AT MOST 1048576: true; the input reads as it did. -/
def fnPolAddUptoRow : OpenClaim := { program := "ytddfpjjeoojlmaa", sum := "186177a7934585768738dc3370962b0696d46a6784037e03bdd817324c61fe56", func := "loop.example/selvedge/laws.FnPolAdd", spec := "fnPolAdd", unfollowed := true, recurses := true, plainKeys := false, apart := false, narrowed := true }
def FnPolAddUptoSaid : Prop := fnPolAddUptoRow.holds Try.pinned (OpenSpec.upto fnPolAddSpec)

/-- 'laws.FnPolSub', WHERE WHAT IT READS IS OF BULK AT MOST 1048576: true; the input reads as it did. -/
def fnPolSubUptoRow : OpenClaim := { program := "ytddfpjjeoojlmaa", sum := "186177a7934585768738dc3370962b0696d46a6784037e03bdd817324c61fe56", func := "loop.example/selvedge/laws.FnPolSub", spec := "fnPolSub", unfollowed := true, recurses := true, plainKeys := false, apart := false, narrowed := true }
def FnPolSubUptoSaid : Prop := fnPolSubUptoRow.holds Try.pinned (OpenSpec.upto fnPolSubSpec)

/-- 'laws.FnPolScale', WHERE WHAT IT READS IS OF BULK AT MOST 1048576: true; the input reads as it did. -/
def fnPolScaleUptoRow : OpenClaim := { program := "ytddfpjjeoojlmaa", sum := "186177a7934585768738dc3370962b0696d46a6784037e03bdd817324c61fe56", func := "loop.example/selvedge/laws.FnPolScale", spec := "fnPolScale", unfollowed := true, recurses := true, plainKeys := false, apart := false, narrowed := true }
def FnPolScaleUptoSaid : Prop := fnPolScaleUptoRow.holds Try.pinned (OpenSpec.upto fnPolScaleSpec)

/-- 'laws.FnPolSame', WHERE WHAT IT READS IS OF BULK AT MOST 1048576: true; the input reads as it did. -/
def fnPolSameUptoRow : OpenClaim := { program := "ytddfpjjeoojlmaa", sum := "186177a7934585768738dc3370962b0696d46a6784037e03bdd817324c61fe56", func := "loop.example/selvedge/laws.FnPolSame", spec := "fnPolSame", unfollowed := true, recurses := true, plainKeys := false, apart := false, narrowed := true }
def FnPolSameUptoSaid : Prop := fnPolSameUptoRow.holds Try.pinned (OpenSpec.upto fnPolSameSpec)

/-- 'laws.FnPolFree', WHERE WHAT IT READS IS OF BULK AT MOST 1048576: true; the input reads as it did. -/
def fnPolFreeUptoRow : OpenClaim := { program := "ytddfpjjeoojlmaa", sum := "186177a7934585768738dc3370962b0696d46a6784037e03bdd817324c61fe56", func := "loop.example/selvedge/laws.FnPolFree", spec := "fnPolFree", unfollowed := true, recurses := true, plainKeys := false, apart := false, narrowed := true }
def FnPolFreeUptoSaid : Prop := fnPolFreeUptoRow.holds Try.pinned (OpenSpec.upto fnPolFreeSpec)

/-- 'laws.FnFilSum', WHERE WHAT IT READS IS OF BULK AT MOST 1048576: true; the input reads as it did. -/
def fnFilSumUptoRow : OpenClaim := { program := "ytddfpjjeoojlmaa", sum := "186177a7934585768738dc3370962b0696d46a6784037e03bdd817324c61fe56", func := "loop.example/selvedge/laws.FnFilSum", spec := "fnFilSum", unfollowed := true, recurses := true, plainKeys := false, apart := false, narrowed := true }
def FnFilSumUptoSaid : Prop := fnFilSumUptoRow.holds Try.pinned (OpenSpec.upto fnFilSumSpec)

end Rows
end Go.Proofs.Ytddfpjjeoojlmaa
