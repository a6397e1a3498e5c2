/-
  No cell of these rows narrows 'for every input' (looked for: loops, veiled, ifaces, maps, wideKeys, modest, calm, conditions, laid).
  DERIVED. THE GIVEN ROWS OF THIS SEAT. 4 by the template 'for every input the law returns true; each argument reads behind the call as it read before'; 0 by the template 'total and deterministic' (their statements: YtfnlogmfkpaaiamTotals.lean).
  GIVEN WITH THE SEED: the statements are not yours to turn. If you find one false, say at which input.
  Laid BY PROGRAM, IN A SANDBOX (cutbox-rows.mjs): the forced cells as the released guide's own fill.sh prints them over the translation 8a46d02ba19983af… (all of the seat's roots in one cut). By AI agents, Wed Nov 11 2026. No macro, syntax, notation, axiom, sorry.
-/
import Derived.Test.YtfnlogmfkpaaiamChecked
import GoSem.Claim
import GoSem.ClaimJoined
import GoSem.ClaimMapViews
import Derived.JoinedTies
import Derived.KernelRfl
namespace Go.Proofs.Ytfnlogmfkpaaiam
/- THE CELL 'sum', in the pinned program and in every row, IS THE sha256 OF THE DUMP (.gsa) THAT YtfnlogmfkpaaiamProg.lean LOADS. Nothing in Lean hashes anything: it is a label: what it is worth is what the hold of that sum in a sandbox is worth. -/
noncomputable def Try.pinned : Pinned := { name := "ytfnlogmfkpaaiam", sum := "8a46d02ba19983afd93eff529306f254b0be0fc4318698ea0e16c05a5306c8e2", checked := Try.checked }
namespace Rows
def none {H : Type} : Left H := { results := [], args := [] }

/-- 'laws.FnMonOrders': WHATEVER THE INPUT: true; the input reads as it did. -/
def fnMonOrdersSpec : ChangeSpec := { name := "fnMonOrders", fn := fun _ => fun
  | [d] => { results := [.lit (.bool true)], args := [d] }
  | _ => none }
def fnMonOrdersRow : OpenClaim := { program := "ytfnlogmfkpaaiam", sum := "8a46d02ba19983afd93eff529306f254b0be0fc4318698ea0e16c05a5306c8e2", func := "loop.example/selvedge/laws.FnMonOrders", spec := "fnMonOrders", unfollowed := true, recurses := true, plainKeys := false, apart := false }
def FnMonOrdersSaid : Prop := fnMonOrdersRow.holds Try.pinned (OpenSpec.ofChange fnMonOrdersSpec)

/-- ITS FALSE NEIGHBOUR: 'it returns false'. Refute it at one input. -/
def fnMonOrdersWrong : ChangeSpec := { name := "fnMonOrders", fn := fun _ => fun
  | [d] => { results := [.lit (.bool false)], args := [d] }
  | _ => none }
def FnMonOrdersWrongFalsely : Prop := fnMonOrdersRow.holds Try.pinned (OpenSpec.ofChange fnMonOrdersWrong)

/-- 'laws.FnWylPowers': WHATEVER THE INPUT: true; the input reads as it did. -/
def fnWylPowersSpec : ChangeSpec := { name := "fnWylPowers", fn := fun _ => fun
  | [d] => { results := [.lit (.bool true)], args := [d] }
  | _ => none }
def fnWylPowersRow : OpenClaim := { program := "ytfnlogmfkpaaiam", sum := "8a46d02ba19983afd93eff529306f254b0be0fc4318698ea0e16c05a5306c8e2", func := "loop.example/selvedge/laws.FnWylPowers", spec := "fnWylPowers", unfollowed := true, recurses := true, plainKeys := false, apart := false }
def FnWylPowersSaid : Prop := fnWylPowersRow.holds Try.pinned (OpenSpec.ofChange fnWylPowersSpec)

/-- ITS FALSE NEIGHBOUR: 'it returns false'. Refute it at one input. -/
def fnWylPowersWrong : ChangeSpec := { name := "fnWylPowers", fn := fun _ => fun
  | [d] => { results := [.lit (.bool false)], args := [d] }
  | _ => none }
def FnWylPowersWrongFalsely : Prop := fnWylPowersRow.holds Try.pinned (OpenSpec.ofChange fnWylPowersWrong)

/-- 'laws.FnDoEuler': WHATEVER THE INPUT: true; the input reads as it did. -/
def fnDoEulerSpec : ChangeSpec := { name := "fnDoEuler", fn := fun _ => fun
  | [d] => { results := [.lit (.bool true)], args := [d] }
  | _ => none }
def fnDoEulerRow : OpenClaim := { program := "ytfnlogmfkpaaiam", sum := "8a46d02ba19983afd93eff529306f254b0be0fc4318698ea0e16c05a5306c8e2", func := "loop.example/selvedge/laws.FnDoEuler", spec := "fnDoEuler", unfollowed := true, recurses := true, plainKeys := false, apart := false }
def FnDoEulerSaid : Prop := fnDoEulerRow.holds Try.pinned (OpenSpec.ofChange fnDoEulerSpec)

/-- ITS FALSE NEIGHBOUR: 'it returns false'. Refute it at one input. -/
def fnDoEulerWrong : ChangeSpec := { name := "fnDoEuler", fn := fun _ => fun
  | [d] => { results := [.lit (.bool false)], args := [d] }
  | _ => none }
def FnDoEulerWrongFalsely : Prop := fnDoEulerRow.holds Try.pinned (OpenSpec.ofChange fnDoEulerWrong)

/-- 'laws.FnFilSum': WHATEVER THE INPUT: true; the input reads as it did. -/
def fnFilSumSpec : ChangeSpec := { name := "fnFilSum", fn := fun _ => fun
  | [d] => { results := [.lit (.bool true)], args := [d] }
  | _ => none }
def fnFilSumRow : OpenClaim := { program := "ytfnlogmfkpaaiam", sum := "8a46d02ba19983afd93eff529306f254b0be0fc4318698ea0e16c05a5306c8e2", func := "loop.example/selvedge/laws.FnFilSum", spec := "fnFilSum", unfollowed := true, recurses := true, plainKeys := false, apart := false }
def FnFilSumSaid : Prop := fnFilSumRow.holds Try.pinned (OpenSpec.ofChange fnFilSumSpec)

/-- ITS FALSE NEIGHBOUR: 'it returns false'. Refute it at one input. -/
def fnFilSumWrong : ChangeSpec := { name := "fnFilSum", fn := fun _ => fun
  | [d] => { results := [.lit (.bool false)], args := [d] }
  | _ => none }
def FnFilSumWrongFalsely : Prop := fnFilSumRow.holds Try.pinned (OpenSpec.ofChange fnFilSumWrong)

/- THE SECOND FORM. 'bulk': how many values and letters a reading holds, each counted each time it is reached (what is shared counts as often as it is met; a slice's spare places count too). A statement '..UptoSaid' is the law's where the arguments, and the package variables that the reading takes, are together of bulk at most 1048576: NARROWER than '..Said'. Prove '..Said' where nothing that the law and all that it calls make is longer than what came in: it says more and counts as full. Else prove '..UptoSaid'. A law counts once. -/
mutual
def uptoBulk {H : Type} : DataW H → Nat
  | .lit (.string bytes) => bytes.length + 1
  | .lit _ => 1
  | .nil => 1
  | .ptr d => uptoBulk d + 1
  | .slice elems spare => uptoBulkAll elems + uptoBulkAll spare + 1
  | .agg parts => uptoBulkAll parts + 1
  | .iface _ d => uptoBulk d + 1
  | .map entries => uptoBulkEntries entries + 1
  | .held _ => 1
def uptoBulkAll {H : Type} : List (DataW H) → Nat
  | [] => 0
  | d :: r => uptoBulk d + uptoBulkAll r
def uptoBulkEntries {H : Type} : List (Lit × DataW H) → Nat
  | [] => 0
  | x :: r => uptoBulkEntry x + uptoBulkEntries r
def uptoBulkEntry {H : Type} : Lit × DataW H → Nat
  | (.string bytes, d) => bytes.length + uptoBulk d + 1
  | (_, d) => uptoBulk d + 1
 end
def uptoSmall : (H : Type) → List (DataW H) → Bool := fun _ ds => decide (uptoBulkAll ds ≤ 1048576)
def OpenSpec.upto (s : _root_.Go.ChangeSpec) : _root_.Go.OpenSpec := { _root_.Go.OpenSpec.ofChange s with cond := some uptoSmall }

/-- 'laws.FnMonOrders', WHERE WHAT IT READS IS OF BULK AT MOST 1048576: true; the input reads as it did. -/
def fnMonOrdersUptoRow : OpenClaim := { program := "ytfnlogmfkpaaiam", sum := "8a46d02ba19983afd93eff529306f254b0be0fc4318698ea0e16c05a5306c8e2", func := "loop.example/selvedge/laws.FnMonOrders", spec := "fnMonOrders", unfollowed := true, recurses := true, plainKeys := false, apart := false, narrowed := true }
def FnMonOrdersUptoSaid : Prop := fnMonOrdersUptoRow.holds Try.pinned (OpenSpec.upto fnMonOrdersSpec)

/-- 'laws.FnWylPowers', WHERE WHAT IT READS IS OF BULK AT MOST 1048576: true; the input reads as it did. -/
def fnWylPowersUptoRow : OpenClaim := { program := "ytfnlogmfkpaaiam", sum := "8a46d02ba19983afd93eff529306f254b0be0fc4318698ea0e16c05a5306c8e2", func := "loop.example/selvedge/laws.FnWylPowers", spec := "fnWylPowers", unfollowed := true, recurses := true, plainKeys := false, apart := false, narrowed := true }
def FnWylPowersUptoSaid : Prop := fnWylPowersUptoRow.holds Try.pinned (OpenSpec.upto fnWylPowersSpec)

/-- 'laws.FnDoEuler', WHERE WHAT IT READS IS OF BULK AT MOST 1048576: true; the input reads as it did. -/
def fnDoEulerUptoRow : OpenClaim := { program := "ytfnlogmfkpaaiam", sum := "8a46d02ba19983afd93eff529306f254b0be0fc4318698ea0e16c05a5306c8e2", func := "loop.example/selvedge/laws.FnDoEuler", spec := "fnDoEuler", unfollowed := true, recurses := true, plainKeys := false, apart := false, narrowed := true }
def FnDoEulerUptoSaid : Prop := fnDoEulerUptoRow.holds Try.pinned (OpenSpec.upto fnDoEulerSpec)

/-- 'laws.FnFilSum', WHERE WHAT IT READS IS OF BULK AT MOST 1048576: true; the input reads as it did. -/
def fnFilSumUptoRow : OpenClaim := { program := "ytfnlogmfkpaaiam", sum := "8a46d02ba19983afd93eff529306f254b0be0fc4318698ea0e16c05a5306c8e2", func := "loop.example/selvedge/laws.FnFilSum", spec := "fnFilSum", unfollowed := true, recurses := true, plainKeys := false, apart := false, narrowed := true }
def FnFilSumUptoSaid : Prop := fnFilSumUptoRow.holds Try.pinned (OpenSpec.upto fnFilSumSpec)

end Rows
end Go.Proofs.Ytfnlogmfkpaaiam
