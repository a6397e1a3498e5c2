/-
  No cell of these rows narrows 'for every input' (looked for: loops, veiled, ifaces, maps, wideKeys, modest, calm, conditions, laid).
  DERIVED. THE GIVEN ROWS OF THIS SEAT. 3 by the template 'for every input the law returns true; each argument reads behind the call as it read before'; 0 by the template 'total and deterministic' (their statements: YtjedkkgmehflnauTotals.lean).
  GIVEN WITH THE SEED: the statements are not yours to turn. If you find one false, say at which input.
  Laid BY PROGRAM, IN A SANDBOX (cutbox-rows.mjs): the forced cells as the released guide's own fill.sh prints them over the translation da2e69facb205c4b… (all of the seat's roots in one cut). By AI agents, Wed Nov 11 2026. No macro, syntax, notation, axiom, sorry.
-/
import Derived.Test.YtjedkkgmehflnauChecked
import GoSem.Claim
import GoSem.ClaimJoined
import GoSem.ClaimMapViews
import Derived.JoinedTies
import Derived.KernelRfl
namespace Go.Proofs.Ytjedkkgmehflnau
/- THE CELL 'sum', in the pinned program and in every row, IS THE sha256 OF THE DUMP (.gsa) THAT YtjedkkgmehflnauProg.lean LOADS. Nothing in Lean hashes anything: it is a label: what it is worth is what the hold of that sum in a sandbox is worth. -/
noncomputable def Try.pinned : Pinned := { name := "ytjedkkgmehflnau", sum := "da2e69facb205c4b5dbcf0f1204b4101f51231e85afeb9364ffa3330dd609cf9", checked := Try.checked }
namespace Rows
def none {H : Type} : Left H := { results := [], args := [] }

/-- 'laws.FnExactPolSub': WHATEVER THE INPUT: true; the input reads as it did. -/
def fnExactPolSubSpec : ChangeSpec := { name := "fnExactPolSub", fn := fun _ => fun
  | [d1, d2] => { results := [.lit (.bool true)], args := [d1, d2] }
  | _ => none }
def fnExactPolSubRow : OpenClaim := { program := "ytjedkkgmehflnau", sum := "da2e69facb205c4b5dbcf0f1204b4101f51231e85afeb9364ffa3330dd609cf9", func := "loop.example/selvedge/laws.FnExactPolSub", spec := "fnExactPolSub", unfollowed := true, recurses := true, plainKeys := false, apart := false }
def FnExactPolSubSaid : Prop := fnExactPolSubRow.holds Try.pinned (OpenSpec.ofChange fnExactPolSubSpec)

/-- ITS FALSE NEIGHBOUR: 'it returns false'. Refute it at one input. -/
def fnExactPolSubWrong : ChangeSpec := { name := "fnExactPolSub", fn := fun _ => fun
  | [d1, d2] => { results := [.lit (.bool false)], args := [d1, d2] }
  | _ => none }
def FnExactPolSubWrongFalsely : Prop := fnExactPolSubRow.holds Try.pinned (OpenSpec.ofChange fnExactPolSubWrong)

/-- 'laws.FnExactPolAt': WHATEVER THE INPUT: true; the input reads as it did. -/
def fnExactPolAtSpec : ChangeSpec := { name := "fnExactPolAt", fn := fun _ => fun
  | [d1, d2] => { results := [.lit (.bool true)], args := [d1, d2] }
  | _ => none }
def fnExactPolAtRow : OpenClaim := { program := "ytjedkkgmehflnau", sum := "da2e69facb205c4b5dbcf0f1204b4101f51231e85afeb9364ffa3330dd609cf9", func := "loop.example/selvedge/laws.FnExactPolAt", spec := "fnExactPolAt", plainKeys := false, apart := false }
def FnExactPolAtSaid : Prop := fnExactPolAtRow.holds Try.pinned (OpenSpec.ofChange fnExactPolAtSpec)

/-- ITS FALSE NEIGHBOUR: 'it returns false'. Refute it at one input. -/
def fnExactPolAtWrong : ChangeSpec := { name := "fnExactPolAt", fn := fun _ => fun
  | [d1, d2] => { results := [.lit (.bool false)], args := [d1, d2] }
  | _ => none }
def FnExactPolAtWrongFalsely : Prop := fnExactPolAtRow.holds Try.pinned (OpenSpec.ofChange fnExactPolAtWrong)

/-- 'laws.FnExactPolSame': WHATEVER THE INPUT: true; the input reads as it did. -/
def fnExactPolSameSpec : ChangeSpec := { name := "fnExactPolSame", fn := fun _ => fun
  | [d1, d2] => { results := [.lit (.bool true)], args := [d1, d2] }
  | _ => none }
def fnExactPolSameRow : OpenClaim := { program := "ytjedkkgmehflnau", sum := "da2e69facb205c4b5dbcf0f1204b4101f51231e85afeb9364ffa3330dd609cf9", func := "loop.example/selvedge/laws.FnExactPolSame", spec := "fnExactPolSame", plainKeys := false, apart := false }
def FnExactPolSameSaid : Prop := fnExactPolSameRow.holds Try.pinned (OpenSpec.ofChange fnExactPolSameSpec)

/-- ITS FALSE NEIGHBOUR: 'it returns false'. Refute it at one input. -/
def fnExactPolSameWrong : ChangeSpec := { name := "fnExactPolSame", fn := fun _ => fun
  | [d1, d2] => { results := [.lit (.bool false)], args := [d1, d2] }
  | _ => none }
def FnExactPolSameWrongFalsely : Prop := fnExactPolSameRow.holds Try.pinned (OpenSpec.ofChange fnExactPolSameWrong)

/- THE SECOND FORM. 'bulk': how many values and letters a reading holds, each counted each time it is reached (what is shared counts as often as it is met; a slice's spare places count too). A statement '..UptoSaid' is the law's where the arguments, and the package variables that the reading takes, are together of bulk at most 1048576: NARROWER than '..Said'. Prove '..Said' where nothing that the law and all that it calls make is longer than what came in: it says more and counts as full. Else prove '..UptoSaid'. A law counts once. -/
mutual
def uptoBulk {H : Type} : DataW H → Nat
  | .lit (.string bytes) => bytes.length + 1
  | .lit _ => 1
  | .nil => 1
  | .ptr d => uptoBulk d + 1
  | .slice elems spare => uptoBulkAll elems + uptoBulkAll spare + 1
  | .agg parts => uptoBulkAll parts + 1
  | .iface _ d => uptoBulk d + 1
  | .map entries => uptoBulkEntries entries + 1
  | .held _ => 1
def uptoBulkAll {H : Type} : List (DataW H) → Nat
  | [] => 0
  | d :: r => uptoBulk d + uptoBulkAll r
def uptoBulkEntries {H : Type} : List (Lit × DataW H) → Nat
  | [] => 0
  | x :: r => uptoBulkEntry x + uptoBulkEntries r
def uptoBulkEntry {H : Type} : Lit × DataW H → Nat
  | (.string bytes, d) => bytes.length + uptoBulk d + 1
  | (_, d) => uptoBulk d + 1
 end
def uptoSmall : (H : Type) → List (DataW H) → Bool := fun _ ds => decide (uptoBulkAll ds ≤ 1048576)
def OpenSpec.upto (s : _root_.Go.ChangeSpec) : _root_.Go.OpenSpec := { _root_.Go.OpenSpec.ofChange s with cond := some uptoSmall }

/-- 'laws.FnExactPolSub', WHERE WHAT IT READS IS OF BULK AT MOST 1048576: true; the input reads as it did. -/
def fnExactPolSubUptoRow : OpenClaim := { program := "ytjedkkgmehflnau", sum := "da2e69facb205c4b5dbcf0f1204b4101f51231e85afeb9364ffa3330dd609cf9", func := "loop.example/selvedge/laws.FnExactPolSub", spec := "fnExactPolSub", unfollowed := true, recurses := true, plainKeys := false, apart := false, narrowed := true }
def FnExactPolSubUptoSaid : Prop := fnExactPolSubUptoRow.holds Try.pinned (OpenSpec.upto fnExactPolSubSpec)

/-- 'laws.FnExactPolAt', WHERE WHAT IT READS IS OF BULK AT MOST 1048576: true; the input reads as it did. -/
def fnExactPolAtUptoRow : OpenClaim := { program := "ytjedkkgmehflnau", sum := "da2e69facb205c4b5dbcf0f1204b4101f51231e85afeb9364ffa3330dd609cf9", func := "loop.example/selvedge/laws.FnExactPolAt", spec := "fnExactPolAt", plainKeys := false, apart := false, narrowed := true }
def FnExactPolAtUptoSaid : Prop := fnExactPolAtUptoRow.holds Try.pinned (OpenSpec.upto fnExactPolAtSpec)

/-- 'laws.FnExactPolSame', WHERE WHAT IT READS IS OF BULK AT MOST 1048576: true; the input reads as it did. -/
def fnExactPolSameUptoRow : OpenClaim := { program := "ytjedkkgmehflnau", sum := "da2e69facb205c4b5dbcf0f1204b4101f51231e85afeb9364ffa3330dd609cf9", func := "loop.example/selvedge/laws.FnExactPolSame", spec := "fnExactPolSame", plainKeys := false, apart := false, narrowed := true }
def FnExactPolSameUptoSaid : Prop := fnExactPolSameUptoRow.holds Try.pinned (OpenSpec.upto fnExactPolSameSpec)

end Rows
end Go.Proofs.Ytjedkkgmehflnau
