/-
  No cell of these rows narrows 'for every input' (looked for: loops, veiled, ifaces, maps, wideKeys, modest, calm, conditions, laid).
  DERIVED. THE GIVEN ROWS OF THIS SEAT. 4 by the template 'for every input the law returns true; each argument reads behind the call as it read before'; 0 by the template 'total and deterministic' (their statements: YtfnlogmfkpaaiadTotals.lean).
  GIVEN WITH THE SEED: the statements are not yours to turn. If you find one false, say at which input.
  Laid BY PROGRAM, IN A SANDBOX (cutbox-rows.mjs): the forced cells as the released guide's own fill.sh prints them over the translation 8fd760c0bf17bd8a… (all of the seat's roots in one cut). By AI agents, Wed Nov 11 2026. No macro, syntax, notation, axiom, sorry.
-/
import Derived.Test.YtfnlogmfkpaaiadChecked
import GoSem.Claim
import GoSem.ClaimJoined
import GoSem.ClaimMapViews
import Derived.JoinedTies
import Derived.KernelRfl
namespace Go.Proofs.Ytfnlogmfkpaaiad
/- THE CELL 'sum', in the pinned program and in every row, IS THE sha256 OF THE DUMP (.gsa) THAT YtfnlogmfkpaaiadProg.lean LOADS. Nothing in Lean hashes anything: it is a label: what it is worth is what the hold of that sum in a sandbox is worth. -/
noncomputable def Try.pinned : Pinned := { name := "ytfnlogmfkpaaiad", sum := "8fd760c0bf17bd8a65f24ecd41c681f5c56221dd750a96be8bde89345d447bf4", checked := Try.checked }
namespace Rows
def none {H : Type} : Left H := { results := [], args := [] }

/-- 'laws.FnPolScale': WHATEVER THE INPUT: true; the input reads as it did. -/
def fnPolScaleSpec : ChangeSpec := { name := "fnPolScale", fn := fun _ => fun
  | [d1, d2] => { results := [.lit (.bool true)], args := [d1, d2] }
  | _ => none }
def fnPolScaleRow : OpenClaim := { program := "ytfnlogmfkpaaiad", sum := "8fd760c0bf17bd8a65f24ecd41c681f5c56221dd750a96be8bde89345d447bf4", func := "loop.example/selvedge/laws.FnPolScale", spec := "fnPolScale", unfollowed := true, recurses := true, plainKeys := false, apart := false }
def FnPolScaleSaid : Prop := fnPolScaleRow.holds Try.pinned (OpenSpec.ofChange fnPolScaleSpec)

/-- ITS FALSE NEIGHBOUR: 'it returns false'. Refute it at one input. -/
def fnPolScaleWrong : ChangeSpec := { name := "fnPolScale", fn := fun _ => fun
  | [d1, d2] => { results := [.lit (.bool false)], args := [d1, d2] }
  | _ => none }
def FnPolScaleWrongFalsely : Prop := fnPolScaleRow.holds Try.pinned (OpenSpec.ofChange fnPolScaleWrong)

/-- 'laws.FnPolLead': WHATEVER THE INPUT: true; the input reads as it did. -/
def fnPolLeadSpec : ChangeSpec := { name := "fnPolLead", fn := fun _ => fun
  | [d] => { results := [.lit (.bool true)], args := [d] }
  | _ => none }
def fnPolLeadRow : OpenClaim := { program := "ytfnlogmfkpaaiad", sum := "8fd760c0bf17bd8a65f24ecd41c681f5c56221dd750a96be8bde89345d447bf4", func := "loop.example/selvedge/laws.FnPolLead", spec := "fnPolLead", unfollowed := true, recurses := true, plainKeys := false, apart := false }
def FnPolLeadSaid : Prop := fnPolLeadRow.holds Try.pinned (OpenSpec.ofChange fnPolLeadSpec)

/-- ITS FALSE NEIGHBOUR: 'it returns false'. Refute it at one input. -/
def fnPolLeadWrong : ChangeSpec := { name := "fnPolLead", fn := fun _ => fun
  | [d] => { results := [.lit (.bool false)], args := [d] }
  | _ => none }
def FnPolLeadWrongFalsely : Prop := fnPolLeadRow.holds Try.pinned (OpenSpec.ofChange fnPolLeadWrong)

/-- 'laws.FnPolAt': WHATEVER THE INPUT: true; the input reads as it did. -/
def fnPolAtSpec : ChangeSpec := { name := "fnPolAt", fn := fun _ => fun
  | [d] => { results := [.lit (.bool true)], args := [d] }
  | _ => none }
def fnPolAtRow : OpenClaim := { program := "ytfnlogmfkpaaiad", sum := "8fd760c0bf17bd8a65f24ecd41c681f5c56221dd750a96be8bde89345d447bf4", func := "loop.example/selvedge/laws.FnPolAt", spec := "fnPolAt", plainKeys := false, apart := false }
def FnPolAtSaid : Prop := fnPolAtRow.holds Try.pinned (OpenSpec.ofChange fnPolAtSpec)

/-- ITS FALSE NEIGHBOUR: 'it returns false'. Refute it at one input. -/
def fnPolAtWrong : ChangeSpec := { name := "fnPolAt", fn := fun _ => fun
  | [d] => { results := [.lit (.bool false)], args := [d] }
  | _ => none }
def FnPolAtWrongFalsely : Prop := fnPolAtRow.holds Try.pinned (OpenSpec.ofChange fnPolAtWrong)

/-- 'laws.FnPolSame': WHATEVER THE INPUT: true; the input reads as it did. -/
def fnPolSameSpec : ChangeSpec := { name := "fnPolSame", fn := fun _ => fun
  | [d] => { results := [.lit (.bool true)], args := [d] }
  | _ => none }
def fnPolSameRow : OpenClaim := { program := "ytfnlogmfkpaaiad", sum := "8fd760c0bf17bd8a65f24ecd41c681f5c56221dd750a96be8bde89345d447bf4", func := "loop.example/selvedge/laws.FnPolSame", spec := "fnPolSame", unfollowed := true, recurses := true, plainKeys := false, apart := false }
def FnPolSameSaid : Prop := fnPolSameRow.holds Try.pinned (OpenSpec.ofChange fnPolSameSpec)

/-- ITS FALSE NEIGHBOUR: 'it returns false'. Refute it at one input. -/
def fnPolSameWrong : ChangeSpec := { name := "fnPolSame", fn := fun _ => fun
  | [d] => { results := [.lit (.bool false)], args := [d] }
  | _ => none }
def FnPolSameWrongFalsely : Prop := fnPolSameRow.holds Try.pinned (OpenSpec.ofChange fnPolSameWrong)

/- THE SECOND FORM. 'bulk': how many values and letters a reading holds, each counted each time it is reached (what is shared counts as often as it is met; a slice's spare places count too). A statement '..UptoSaid' is the law's where the arguments, and the package variables that the reading takes, are together of bulk at most 1048576: NARROWER than '..Said'. Prove '..Said' where nothing that the law and all that it calls make is longer than what came in: it says more and counts as full. Else prove '..UptoSaid'. A law counts once. -/
mutual
def uptoBulk {H : Type} : DataW H → Nat
  | .lit (.string bytes) => bytes.length + 1
  | .lit _ => 1
  | .nil => 1
  | .ptr d => uptoBulk d + 1
  | .slice elems spare => uptoBulkAll elems + uptoBulkAll spare + 1
  | .agg parts => uptoBulkAll parts + 1
  | .iface _ d => uptoBulk d + 1
  | .map entries => uptoBulkEntries entries + 1
  | .held _ => 1
def uptoBulkAll {H : Type} : List (DataW H) → Nat
  | [] => 0
  | d :: r => uptoBulk d + uptoBulkAll r
def uptoBulkEntries {H : Type} : List (Lit × DataW H) → Nat
  | [] => 0
  | x :: r => uptoBulkEntry x + uptoBulkEntries r
def uptoBulkEntry {H : Type} : Lit × DataW H → Nat
  | (.string bytes, d) => bytes.length + uptoBulk d + 1
  | (_, d) => uptoBulk d + 1
 end
def uptoSmall : (H : Type) → List (DataW H) → Bool := fun _ ds => decide (uptoBulkAll ds ≤ 1048576)
def OpenSpec.upto (s : _root_.Go.ChangeSpec) : _root_.Go.OpenSpec := { _root_.Go.OpenSpec.ofChange s with cond := some uptoSmall }

/-- 'laws.FnPolScale', WHERE WHAT IT READS IS OF BULK AT MOST 1048576: true; the input reads as it did. -/
def fnPolScaleUptoRow : OpenClaim := { program := "ytfnlogmfkpaaiad", sum := "8fd760c0bf17bd8a65f24ecd41c681f5c56221dd750a96be8bde89345d447bf4", func := "loop.example/selvedge/laws.FnPolScale", spec := "fnPolScale", unfollowed := true, recurses := true, plainKeys := false, apart := false, narrowed := true }
def FnPolScaleUptoSaid : Prop := fnPolScaleUptoRow.holds Try.pinned (OpenSpec.upto fnPolScaleSpec)

/-- 'laws.FnPolLead', WHERE WHAT IT READS IS OF BULK AT MOST 1048576: true; the input reads as it did. -/
def fnPolLeadUptoRow : OpenClaim := { program := "ytfnlogmfkpaaiad", sum := "8fd760c0bf17bd8a65f24ecd41c681f5c56221dd750a96be8bde89345d447bf4", func := "loop.example/selvedge/laws.FnPolLead", spec := "fnPolLead", unfollowed := true, recurses := true, plainKeys := false, apart := false, narrowed := true }
def FnPolLeadUptoSaid : Prop := fnPolLeadUptoRow.holds Try.pinned (OpenSpec.upto fnPolLeadSpec)

/-- 'laws.FnPolAt', WHERE WHAT IT READS IS OF BULK AT MOST 1048576: true; the input reads as it did. -/
def fnPolAtUptoRow : OpenClaim := { program := "ytfnlogmfkpaaiad", sum := "8fd760c0bf17bd8a65f24ecd41c681f5c56221dd750a96be8bde89345d447bf4", func := "loop.example/selvedge/laws.FnPolAt", spec := "fnPolAt", plainKeys := false, apart := false, narrowed := true }
def FnPolAtUptoSaid : Prop := fnPolAtUptoRow.holds Try.pinned (OpenSpec.upto fnPolAtSpec)

/-- 'laws.FnPolSame', WHERE WHAT IT READS IS OF BULK AT MOST 1048576: true; the input reads as it did. -/
def fnPolSameUptoRow : OpenClaim := { program := "ytfnlogmfkpaaiad", sum := "8fd760c0bf17bd8a65f24ecd41c681f5c56221dd750a96be8bde89345d447bf4", func := "loop.example/selvedge/laws.FnPolSame", spec := "fnPolSame", unfollowed := true, recurses := true, plainKeys := false, apart := false, narrowed := true }
def FnPolSameUptoSaid : Prop := fnPolSameUptoRow.holds Try.pinned (OpenSpec.upto fnPolSameSpec)

end Rows
end Go.Proofs.Ytfnlogmfkpaaiad
