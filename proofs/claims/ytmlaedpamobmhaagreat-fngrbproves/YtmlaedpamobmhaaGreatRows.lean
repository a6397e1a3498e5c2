/-
  No cell of these rows narrows 'for every input' (looked for: loops, veiled, ifaces, maps, wideKeys, modest, calm, conditions, laid).
  DERIVED. THE GIVEN ROWS OF THIS SEAT. 6 by the template 'for every input the law returns true; each argument reads behind the call as it read before'; 0 by the template 'total and deterministic' (their statements: YtmlaedpamobmhaaGreatTotals.lean).
  GIVEN WITH THE SEED: the statements are not yours to turn. If you find one false, say at which input.
  Laid BY PROGRAM, IN A SANDBOX (cutbox-rows.mjs): the forced cells as the released guide's own fill.sh prints them over the translation 3630cb9473cb306d… (all of the seat's roots in one cut). By AI agents, Wed Nov 11 2026. No macro, syntax, notation, axiom, sorry.
-/
import Derived.Test.YtmlaedpamobmhaaGreatChecked
import GoSem.Claim
import GoSem.ClaimJoined
import GoSem.ClaimMapViews
import Derived.JoinedTies
import Derived.KernelRfl
namespace Go.Proofs.YtmlaedpamobmhaaGreat
/- THE CELL 'sum', in the pinned program and in every row, IS THE sha256 OF THE DUMP (.gsa) THAT YtmlaedpamobmhaaGreatProg.lean LOADS. Nothing in Lean hashes anything: it is a label: what it is worth is what the hold of that sum in a sandbox is worth. -/
noncomputable def Tryz.pinned : Pinned := { name := "ytmlaedpamobmhaagreat", sum := "3630cb9473cb306d8a1eb5c326bcb782bec0b66399febbf366ec7946a269b904", checked := Tryz.checked }
namespace Rows
def none {H : Type} : Left H := { results := [], args := [] }

/-- 'laws.FnGrbMake': WHATEVER THE INPUT: true; the input reads as it did. -/
def fnGrbMakeSpec : ChangeSpec := { name := "fnGrbMake", fn := fun _ => fun
  | [d] => { results := [.lit (.bool true)], args := [d] }
  | _ => none }
def fnGrbMakeRow : OpenClaim := { program := "ytmlaedpamobmhaagreat", sum := "3630cb9473cb306d8a1eb5c326bcb782bec0b66399febbf366ec7946a269b904", func := "loop.example/selvedge/laws.FnGrbMake", spec := "fnGrbMake", unfollowed := true, recurses := true, plainKeys := false, apart := false }
def FnGrbMakeSaid : Prop := fnGrbMakeRow.holds Tryz.pinned (OpenSpec.ofChange fnGrbMakeSpec)

/-- ITS FALSE NEIGHBOUR: 'it returns false'. Refute it at one input. -/
def fnGrbMakeWrong : ChangeSpec := { name := "fnGrbMake", fn := fun _ => fun
  | [d] => { results := [.lit (.bool false)], args := [d] }
  | _ => none }
def FnGrbMakeWrongFalsely : Prop := fnGrbMakeRow.holds Tryz.pinned (OpenSpec.ofChange fnGrbMakeWrong)

/-- 'laws.FnGrbProof': WHATEVER THE INPUT: true; the input reads as it did. -/
def fnGrbProofSpec : ChangeSpec := { name := "fnGrbProof", fn := fun _ => fun
  | [d] => { results := [.lit (.bool true)], args := [d] }
  | _ => none }
def fnGrbProofRow : OpenClaim := { program := "ytmlaedpamobmhaagreat", sum := "3630cb9473cb306d8a1eb5c326bcb782bec0b66399febbf366ec7946a269b904", func := "loop.example/selvedge/laws.FnGrbProof", spec := "fnGrbProof", unfollowed := true, recurses := true, plainKeys := false, apart := false }
def FnGrbProofSaid : Prop := fnGrbProofRow.holds Tryz.pinned (OpenSpec.ofChange fnGrbProofSpec)

/-- ITS FALSE NEIGHBOUR: 'it returns false'. Refute it at one input. -/
def fnGrbProofWrong : ChangeSpec := { name := "fnGrbProof", fn := fun _ => fun
  | [d] => { results := [.lit (.bool false)], args := [d] }
  | _ => none }
def FnGrbProofWrongFalsely : Prop := fnGrbProofRow.holds Tryz.pinned (OpenSpec.ofChange fnGrbProofWrong)

/-- 'laws.FnGrbMore': WHATEVER THE INPUT: true; the input reads as it did. -/
def fnGrbMoreSpec : ChangeSpec := { name := "fnGrbMore", fn := fun _ => fun
  | [d] => { results := [.lit (.bool true)], args := [d] }
  | _ => none }
def fnGrbMoreRow : OpenClaim := { program := "ytmlaedpamobmhaagreat", sum := "3630cb9473cb306d8a1eb5c326bcb782bec0b66399febbf366ec7946a269b904", func := "loop.example/selvedge/laws.FnGrbMore", spec := "fnGrbMore", unfollowed := true, recurses := true, plainKeys := false, apart := false }
def FnGrbMoreSaid : Prop := fnGrbMoreRow.holds Tryz.pinned (OpenSpec.ofChange fnGrbMoreSpec)

/-- ITS FALSE NEIGHBOUR: 'it returns false'. Refute it at one input. -/
def fnGrbMoreWrong : ChangeSpec := { name := "fnGrbMore", fn := fun _ => fun
  | [d] => { results := [.lit (.bool false)], args := [d] }
  | _ => none }
def FnGrbMoreWrongFalsely : Prop := fnGrbMoreRow.holds Tryz.pinned (OpenSpec.ofChange fnGrbMoreWrong)

/-- 'laws.FnGrbOk': WHATEVER THE INPUT: true; the input reads as it did. -/
def fnGrbOkSpec : ChangeSpec := { name := "fnGrbOk", fn := fun _ => fun
  | [d] => { results := [.lit (.bool true)], args := [d] }
  | _ => none }
def fnGrbOkRow : OpenClaim := { program := "ytmlaedpamobmhaagreat", sum := "3630cb9473cb306d8a1eb5c326bcb782bec0b66399febbf366ec7946a269b904", func := "loop.example/selvedge/laws.FnGrbOk", spec := "fnGrbOk", unfollowed := true, recurses := true, plainKeys := false, apart := false }
def FnGrbOkSaid : Prop := fnGrbOkRow.holds Tryz.pinned (OpenSpec.ofChange fnGrbOkSpec)

/-- ITS FALSE NEIGHBOUR: 'it returns false'. Refute it at one input. -/
def fnGrbOkWrong : ChangeSpec := { name := "fnGrbOk", fn := fun _ => fun
  | [d] => { results := [.lit (.bool false)], args := [d] }
  | _ => none }
def FnGrbOkWrongFalsely : Prop := fnGrbOkRow.holds Tryz.pinned (OpenSpec.ofChange fnGrbOkWrong)

/-- 'laws.FnGrbProves': WHATEVER THE INPUT: true; the input reads as it did. -/
def fnGrbProvesSpec : ChangeSpec := { name := "fnGrbProves", fn := fun _ => fun
  | [d] => { results := [.lit (.bool true)], args := [d] }
  | _ => none }
def fnGrbProvesRow : OpenClaim := { program := "ytmlaedpamobmhaagreat", sum := "3630cb9473cb306d8a1eb5c326bcb782bec0b66399febbf366ec7946a269b904", func := "loop.example/selvedge/laws.FnGrbProves", spec := "fnGrbProves", unfollowed := true, recurses := true, plainKeys := false, apart := false }
def FnGrbProvesSaid : Prop := fnGrbProvesRow.holds Tryz.pinned (OpenSpec.ofChange fnGrbProvesSpec)

/-- ITS FALSE NEIGHBOUR: 'it returns false'. Refute it at one input. -/
def fnGrbProvesWrong : ChangeSpec := { name := "fnGrbProves", fn := fun _ => fun
  | [d] => { results := [.lit (.bool false)], args := [d] }
  | _ => none }
def FnGrbProvesWrongFalsely : Prop := fnGrbProvesRow.holds Tryz.pinned (OpenSpec.ofChange fnGrbProvesWrong)

/-- 'laws.FnGrbStairs': WHATEVER THE INPUT: true; the input reads as it did. -/
def fnGrbStairsSpec : ChangeSpec := { name := "fnGrbStairs", fn := fun _ => fun
  | [d] => { results := [.lit (.bool true)], args := [d] }
  | _ => none }
def fnGrbStairsRow : OpenClaim := { program := "ytmlaedpamobmhaagreat", sum := "3630cb9473cb306d8a1eb5c326bcb782bec0b66399febbf366ec7946a269b904", func := "loop.example/selvedge/laws.FnGrbStairs", spec := "fnGrbStairs", unfollowed := true, recurses := true, plainKeys := false, apart := false }
def FnGrbStairsSaid : Prop := fnGrbStairsRow.holds Tryz.pinned (OpenSpec.ofChange fnGrbStairsSpec)

/-- ITS FALSE NEIGHBOUR: 'it returns false'. Refute it at one input. -/
def fnGrbStairsWrong : ChangeSpec := { name := "fnGrbStairs", fn := fun _ => fun
  | [d] => { results := [.lit (.bool false)], args := [d] }
  | _ => none }
def FnGrbStairsWrongFalsely : Prop := fnGrbStairsRow.holds Tryz.pinned (OpenSpec.ofChange fnGrbStairsWrong)

/- THE SECOND FORM. 'bulk': how many values and letters a reading holds, each counted each time it is reached (what is shared counts as often as it is met; a slice's spare places count too). A statement '..UptoSaid' is the law's where the arguments, and the package variables that the reading takes, are together of bulk at most 1048576: NARROWER than '..Said'. Prove '..Said' where nothing that the law and all that it calls make is longer than what came in: it says more and counts as full. Else prove '..UptoSaid'. A law counts once. -/
mutual
def uptoBulk {H : Type} : DataW H → Nat
  | .lit (.string bytes) => bytes.length + 1
  | .lit _ => 1
  | .nil => 1
  | .ptr d => uptoBulk d + 1
  | .slice elems spare => uptoBulkAll elems + uptoBulkAll spare + 1
  | .agg parts => uptoBulkAll parts + 1
  | .iface _ d => uptoBulk d + 1
  | .map entries => uptoBulkEntries entries + 1
  | .held _ => 1
def uptoBulkAll {H : Type} : List (DataW H) → Nat
  | [] => 0
  | d :: r => uptoBulk d + uptoBulkAll r
def uptoBulkEntries {H : Type} : List (Lit × DataW H) → Nat
  | [] => 0
  | x :: r => uptoBulkEntry x + uptoBulkEntries r
def uptoBulkEntry {H : Type} : Lit × DataW H → Nat
  | (.string bytes, d) => bytes.length + uptoBulk d + 1
  | (_, d) => uptoBulk d + 1
 end
def uptoSmall : (H : Type) → List (DataW H) → Bool := fun _ ds => decide (uptoBulkAll ds ≤ 1048576)
def OpenSpec.upto (s : _root_.Go.ChangeSpec) : _root_.Go.OpenSpec := { _root_.Go.OpenSpec.ofChange s with cond := some uptoSmall }

/-- 'laws.FnGrbMake', WHERE WHAT IT READS IS OF BULK AT MOST 1048576: true; the input reads as it did. -/
def fnGrbMakeUptoRow : OpenClaim := { program := "ytmlaedpamobmhaagreat", sum := "3630cb9473cb306d8a1eb5c326bcb782bec0b66399febbf366ec7946a269b904", func := "loop.example/selvedge/laws.FnGrbMake", spec := "fnGrbMake", unfollowed := true, recurses := true, plainKeys := false, apart := false, narrowed := true }
def FnGrbMakeUptoSaid : Prop := fnGrbMakeUptoRow.holds Tryz.pinned (OpenSpec.upto fnGrbMakeSpec)

/-- 'laws.FnGrbProof', WHERE WHAT IT READS IS OF BULK AT MOST 1048576: true; the input reads as it did. -/
def fnGrbProofUptoRow : OpenClaim := { program := "ytmlaedpamobmhaagreat", sum := "3630cb9473cb306d8a1eb5c326bcb782bec0b66399febbf366ec7946a269b904", func := "loop.example/selvedge/laws.FnGrbProof", spec := "fnGrbProof", unfollowed := true, recurses := true, plainKeys := false, apart := false, narrowed := true }
def FnGrbProofUptoSaid : Prop := fnGrbProofUptoRow.holds Tryz.pinned (OpenSpec.upto fnGrbProofSpec)

/-- 'laws.FnGrbMore', WHERE WHAT IT READS IS OF BULK AT MOST 1048576: true; the input reads as it did. -/
def fnGrbMoreUptoRow : OpenClaim := { program := "ytmlaedpamobmhaagreat", sum := "3630cb9473cb306d8a1eb5c326bcb782bec0b66399febbf366ec7946a269b904", func := "loop.example/selvedge/laws.FnGrbMore", spec := "fnGrbMore", unfollowed := true, recurses := true, plainKeys := false, apart := false, narrowed := true }
def FnGrbMoreUptoSaid : Prop := fnGrbMoreUptoRow.holds Tryz.pinned (OpenSpec.upto fnGrbMoreSpec)

/-- 'laws.FnGrbOk', WHERE WHAT IT READS IS OF BULK AT MOST 1048576: true; the input reads as it did. -/
def fnGrbOkUptoRow : OpenClaim := { program := "ytmlaedpamobmhaagreat", sum := "3630cb9473cb306d8a1eb5c326bcb782bec0b66399febbf366ec7946a269b904", func := "loop.example/selvedge/laws.FnGrbOk", spec := "fnGrbOk", unfollowed := true, recurses := true, plainKeys := false, apart := false, narrowed := true }
def FnGrbOkUptoSaid : Prop := fnGrbOkUptoRow.holds Tryz.pinned (OpenSpec.upto fnGrbOkSpec)

/-- 'laws.FnGrbProves', WHERE WHAT IT READS IS OF BULK AT MOST 1048576: true; the input reads as it did. -/
def fnGrbProvesUptoRow : OpenClaim := { program := "ytmlaedpamobmhaagreat", sum := "3630cb9473cb306d8a1eb5c326bcb782bec0b66399febbf366ec7946a269b904", func := "loop.example/selvedge/laws.FnGrbProves", spec := "fnGrbProves", unfollowed := true, recurses := true, plainKeys := false, apart := false, narrowed := true }
def FnGrbProvesUptoSaid : Prop := fnGrbProvesUptoRow.holds Tryz.pinned (OpenSpec.upto fnGrbProvesSpec)

/-- 'laws.FnGrbStairs', WHERE WHAT IT READS IS OF BULK AT MOST 1048576: true; the input reads as it did. -/
def fnGrbStairsUptoRow : OpenClaim := { program := "ytmlaedpamobmhaagreat", sum := "3630cb9473cb306d8a1eb5c326bcb782bec0b66399febbf366ec7946a269b904", func := "loop.example/selvedge/laws.FnGrbStairs", spec := "fnGrbStairs", unfollowed := true, recurses := true, plainKeys := false, apart := false, narrowed := true }
def FnGrbStairsUptoSaid : Prop := fnGrbStairsUptoRow.holds Tryz.pinned (OpenSpec.upto fnGrbStairsSpec)

end Rows
end Go.Proofs.YtmlaedpamobmhaaGreat
