/-
  No cell of these rows narrows 'for every input' (looked for: loops, veiled, ifaces, maps, wideKeys, modest, calm, conditions, laid).
  DERIVED. THE GIVEN ROWS OF THIS SEAT. 3 by the template 'for every input the law returns true; each argument reads behind the call as it read before'; 0 by the template 'total and deterministic' (their statements: YtllfgoepfeoclaaTotals.lean).
  GIVEN WITH THE SEED: the statements are not yours to turn. If you find one false, say at which input.
  Laid BY PROGRAM, IN A SANDBOX (cutbox-rows.mjs): the forced cells as the released guide's own fill.sh prints them over the translation 4cdc68e641fec2b8… (all of the seat's roots in one cut). By AI agents, Wed Nov 11 2026. No macro, syntax, notation, axiom, sorry.
-/
import Derived.Test.YtllfgoepfeoclaaChecked
import GoSem.Claim
import GoSem.ClaimJoined
import GoSem.ClaimMapViews
import Derived.JoinedTies
import Derived.KernelRfl
namespace Go.Proofs.Ytllfgoepfeoclaa
/- THE CELL 'sum', in the pinned program and in every row, IS THE sha256 OF THE DUMP (.gsa) THAT YtllfgoepfeoclaaProg.lean LOADS. Nothing in Lean hashes anything: it is a label: what it is worth is what the hold of that sum in a sandbox is worth. -/
noncomputable def Try.pinned : Pinned := { name := "ytllfgoepfeoclaa", sum := "4cdc68e641fec2b873fa4f6bb1142ed20affd66294fff3be0633ca81fc8a5810", checked := Try.checked }
namespace Rows
def none {H : Type} : Left H := { results := [], args := [] }

/-- 'laws.FnExactSprTerms': WHATEVER THE INPUT: true; the input reads as it did. -/
def fnExactSprTermsSpec : ChangeSpec := { name := "fnExactSprTerms", fn := fun _ => fun
  | [d1, d2, d3] => { results := [.lit (.bool true)], args := [d1, d2, d3] }
  | _ => none }
def fnExactSprTermsRow : OpenClaim := { program := "ytllfgoepfeoclaa", sum := "4cdc68e641fec2b873fa4f6bb1142ed20affd66294fff3be0633ca81fc8a5810", func := "loop.example/selvedge/laws.FnExactSprTerms", spec := "fnExactSprTerms", unfollowed := true, recurses := true, apart := false }
def FnExactSprTermsSaid : Prop := fnExactSprTermsRow.holds Try.pinned (OpenSpec.ofChange fnExactSprTermsSpec)

/-- ITS FALSE NEIGHBOUR: 'it returns false'. Refute it at one input. -/
def fnExactSprTermsWrong : ChangeSpec := { name := "fnExactSprTerms", fn := fun _ => fun
  | [d1, d2, d3] => { results := [.lit (.bool false)], args := [d1, d2, d3] }
  | _ => none }
def FnExactSprTermsWrongFalsely : Prop := fnExactSprTermsRow.holds Try.pinned (OpenSpec.ofChange fnExactSprTermsWrong)

/-- 'laws.FnExactGrbStairs': WHATEVER THE INPUT: true; the input reads as it did. -/
def fnExactGrbStairsSpec : ChangeSpec := { name := "fnExactGrbStairs", fn := fun _ => fun
  | [d1, d2] => { results := [.lit (.bool true)], args := [d1, d2] }
  | _ => none }
def fnExactGrbStairsRow : OpenClaim := { program := "ytllfgoepfeoclaa", sum := "4cdc68e641fec2b873fa4f6bb1142ed20affd66294fff3be0633ca81fc8a5810", func := "loop.example/selvedge/laws.FnExactGrbStairs", spec := "fnExactGrbStairs", unfollowed := true, recurses := true, apart := false }
def FnExactGrbStairsSaid : Prop := fnExactGrbStairsRow.holds Try.pinned (OpenSpec.ofChange fnExactGrbStairsSpec)

/-- ITS FALSE NEIGHBOUR: 'it returns false'. Refute it at one input. -/
def fnExactGrbStairsWrong : ChangeSpec := { name := "fnExactGrbStairs", fn := fun _ => fun
  | [d1, d2] => { results := [.lit (.bool false)], args := [d1, d2] }
  | _ => none }
def FnExactGrbStairsWrongFalsely : Prop := fnExactGrbStairsRow.holds Try.pinned (OpenSpec.ofChange fnExactGrbStairsWrong)

/-- 'laws.FnLstOk': WHATEVER THE INPUT: true; the input reads as it did. -/
def fnLstOkSpec : ChangeSpec := { name := "fnLstOk", fn := fun _ => fun
  | [d] => { results := [.lit (.bool true)], args := [d] }
  | _ => none }
def fnLstOkRow : OpenClaim := { program := "ytllfgoepfeoclaa", sum := "4cdc68e641fec2b873fa4f6bb1142ed20affd66294fff3be0633ca81fc8a5810", func := "loop.example/selvedge/laws.FnLstOk", spec := "fnLstOk", apart := false }
def FnLstOkSaid : Prop := fnLstOkRow.holds Try.pinned (OpenSpec.ofChange fnLstOkSpec)

/-- ITS FALSE NEIGHBOUR: 'it returns false'. Refute it at one input. -/
def fnLstOkWrong : ChangeSpec := { name := "fnLstOk", fn := fun _ => fun
  | [d] => { results := [.lit (.bool false)], args := [d] }
  | _ => none }
def FnLstOkWrongFalsely : Prop := fnLstOkRow.holds Try.pinned (OpenSpec.ofChange fnLstOkWrong)

/- THE SECOND FORM. 'bulk': how many values and letters a reading holds, each counted each time it is reached (what is shared counts as often as it is met; a slice's spare places count too). A statement '..UptoSaid' is the law's where the arguments, and the package variables that the reading takes, are together of bulk at most 1048576: NARROWER than '..Said'. Prove '..Said' where nothing that the law and all that it calls make is longer than what came in: it says more and counts as full. Else prove '..UptoSaid'. A law counts once. -/
mutual
def uptoBulk {H : Type} : DataW H → Nat
  | .lit (.string bytes) => bytes.length + 1
  | .lit _ => 1
  | .nil => 1
  | .ptr d => uptoBulk d + 1
  | .slice elems spare => uptoBulkAll elems + uptoBulkAll spare + 1
  | .agg parts => uptoBulkAll parts + 1
  | .iface _ d => uptoBulk d + 1
  | .map entries => uptoBulkEntries entries + 1
  | .held _ => 1
def uptoBulkAll {H : Type} : List (DataW H) → Nat
  | [] => 0
  | d :: r => uptoBulk d + uptoBulkAll r
def uptoBulkEntries {H : Type} : List (Lit × DataW H) → Nat
  | [] => 0
  | x :: r => uptoBulkEntry x + uptoBulkEntries r
def uptoBulkEntry {H : Type} : Lit × DataW H → Nat
  | (.string bytes, d) => bytes.length + uptoBulk d + 1
  | (_, d) => uptoBulk d + 1
 end
def uptoSmall : (H : Type) → List (DataW H) → Bool := fun _ ds => decide (uptoBulkAll ds ≤ 1048576)
def OpenSpec.upto (s : _root_.Go.ChangeSpec) : _root_.Go.OpenSpec := { _root_.Go.OpenSpec.ofChange s with cond := some uptoSmall }

/-- 'laws.FnExactSprTerms', WHERE WHAT IT READS IS OF BULK AT MOST 1048576: true; the input reads as it did. -/
def fnExactSprTermsUptoRow : OpenClaim := { program := "ytllfgoepfeoclaa", sum := "4cdc68e641fec2b873fa4f6bb1142ed20affd66294fff3be0633ca81fc8a5810", func := "loop.example/selvedge/laws.FnExactSprTerms", spec := "fnExactSprTerms", unfollowed := true, recurses := true, apart := false, narrowed := true }
def FnExactSprTermsUptoSaid : Prop := fnExactSprTermsUptoRow.holds Try.pinned (OpenSpec.upto fnExactSprTermsSpec)

/-- 'laws.FnExactGrbStairs', WHERE WHAT IT READS IS OF BULK AT MOST 1048576: true; the input reads as it did. -/
def fnExactGrbStairsUptoRow : OpenClaim := { program := "ytllfgoepfeoclaa", sum := "4cdc68e641fec2b873fa4f6bb1142ed20affd66294fff3be0633ca81fc8a5810", func := "loop.example/selvedge/laws.FnExactGrbStairs", spec := "fnExactGrbStairs", unfollowed := true, recurses := true, apart := false, narrowed := true }
def FnExactGrbStairsUptoSaid : Prop := fnExactGrbStairsUptoRow.holds Try.pinned (OpenSpec.upto fnExactGrbStairsSpec)

/-- 'laws.FnLstOk', WHERE WHAT IT READS IS OF BULK AT MOST 1048576: true; the input reads as it did. -/
def fnLstOkUptoRow : OpenClaim := { program := "ytllfgoepfeoclaa", sum := "4cdc68e641fec2b873fa4f6bb1142ed20affd66294fff3be0633ca81fc8a5810", func := "loop.example/selvedge/laws.FnLstOk", spec := "fnLstOk", apart := false, narrowed := true }
def FnLstOkUptoSaid : Prop := fnLstOkUptoRow.holds Try.pinned (OpenSpec.upto fnLstOkSpec)

end Rows
end Go.Proofs.Ytllfgoepfeoclaa
