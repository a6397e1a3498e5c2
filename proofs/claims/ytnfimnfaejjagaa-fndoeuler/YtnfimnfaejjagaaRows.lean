/-
  No cell of these rows narrows 'for every input' (looked for: loops, veiled, ifaces, maps, wideKeys, modest, calm, conditions, laid).
  DERIVED. THE GIVEN ROWS OF THIS SEAT. 6 by the template 'for every input the law returns true; each argument reads behind the call as it read before'; 0 by the template 'total and deterministic' (their statements: YtnfimnfaejjagaaTotals.lean).
  GIVEN WITH THE SEED: the statements are not yours to turn. If you find one false, say at which input.
  Laid BY PROGRAM, IN A SANDBOX (cutbox-rows.mjs): the forced cells as the released guide's own fill.sh prints them over the translation 5f5bc5569e09bdc3… (all of the seat's roots in one cut). By AI agents, Wed Nov 11 2026. No macro, syntax, notation, axiom, sorry.
-/
import Derived.Test.YtnfimnfaejjagaaChecked
import GoSem.Claim
import GoSem.ClaimJoined
import GoSem.ClaimMapViews
import Derived.JoinedTies
import Derived.KernelRfl
namespace Go.Proofs.Ytnfimnfaejjagaa
/- THE CELL 'sum', in the pinned program and in every row, IS THE sha256 OF THE DUMP (.gsa) THAT YtnfimnfaejjagaaProg.lean LOADS. Nothing in Lean hashes anything: it is a label: what it is worth is what the hold of that sum in a sandbox is worth. -/
noncomputable def Try.pinned : Pinned := { name := "ytnfimnfaejjagaa", sum := "5f5bc5569e09bdc3cca27b063c6a10fe63f6ab55957d4940a072d167944876ff", checked := Try.checked }
namespace Rows
def none {H : Type} : Left H := { results := [], args := [] }

/-- 'laws.FnDoProduct': WHATEVER THE INPUT: true; the input reads as it did. -/
def fnDoProductSpec : ChangeSpec := { name := "fnDoProduct", fn := fun _ => fun
  | [d1, d2] => { results := [.lit (.bool true)], args := [d1, d2] }
  | _ => none }
def fnDoProductRow : OpenClaim := { program := "ytnfimnfaejjagaa", sum := "5f5bc5569e09bdc3cca27b063c6a10fe63f6ab55957d4940a072d167944876ff", func := "loop.example/selvedge/laws.FnDoProduct", spec := "fnDoProduct", unfollowed := true, recurses := true, plainKeys := false, apart := false }
def FnDoProductSaid : Prop := fnDoProductRow.holds Try.pinned (OpenSpec.ofChange fnDoProductSpec)

/-- ITS FALSE NEIGHBOUR: 'it returns false'. Refute it at one input. -/
def fnDoProductWrong : ChangeSpec := { name := "fnDoProduct", fn := fun _ => fun
  | [d1, d2] => { results := [.lit (.bool false)], args := [d1, d2] }
  | _ => none }
def FnDoProductWrongFalsely : Prop := fnDoProductRow.holds Try.pinned (OpenSpec.ofChange fnDoProductWrong)

/-- 'laws.FnDoSum': WHATEVER THE INPUT: true; the input reads as it did. -/
def fnDoSumSpec : ChangeSpec := { name := "fnDoSum", fn := fun _ => fun
  | [d1, d2] => { results := [.lit (.bool true)], args := [d1, d2] }
  | _ => none }
def fnDoSumRow : OpenClaim := { program := "ytnfimnfaejjagaa", sum := "5f5bc5569e09bdc3cca27b063c6a10fe63f6ab55957d4940a072d167944876ff", func := "loop.example/selvedge/laws.FnDoSum", spec := "fnDoSum", unfollowed := true, recurses := true, plainKeys := false, apart := false }
def FnDoSumSaid : Prop := fnDoSumRow.holds Try.pinned (OpenSpec.ofChange fnDoSumSpec)

/-- ITS FALSE NEIGHBOUR: 'it returns false'. Refute it at one input. -/
def fnDoSumWrong : ChangeSpec := { name := "fnDoSum", fn := fun _ => fun
  | [d1, d2] => { results := [.lit (.bool false)], args := [d1, d2] }
  | _ => none }
def FnDoSumWrongFalsely : Prop := fnDoSumRow.holds Try.pinned (OpenSpec.ofChange fnDoSumWrong)

/-- 'laws.FnDoFaith': WHATEVER THE INPUT: true; the input reads as it did. -/
def fnDoFaithSpec : ChangeSpec := { name := "fnDoFaith", fn := fun _ => fun
  | [d] => { results := [.lit (.bool true)], args := [d] }
  | _ => none }
def fnDoFaithRow : OpenClaim := { program := "ytnfimnfaejjagaa", sum := "5f5bc5569e09bdc3cca27b063c6a10fe63f6ab55957d4940a072d167944876ff", func := "loop.example/selvedge/laws.FnDoFaith", spec := "fnDoFaith", unfollowed := true, recurses := true, plainKeys := false, apart := false }
def FnDoFaithSaid : Prop := fnDoFaithRow.holds Try.pinned (OpenSpec.ofChange fnDoFaithSpec)

/-- ITS FALSE NEIGHBOUR: 'it returns false'. Refute it at one input. -/
def fnDoFaithWrong : ChangeSpec := { name := "fnDoFaith", fn := fun _ => fun
  | [d] => { results := [.lit (.bool false)], args := [d] }
  | _ => none }
def FnDoFaithWrongFalsely : Prop := fnDoFaithRow.holds Try.pinned (OpenSpec.ofChange fnDoFaithWrong)

/-- 'laws.FnActSlope': WHATEVER THE INPUT: true; the input reads as it did. -/
def fnActSlopeSpec : ChangeSpec := { name := "fnActSlope", fn := fun _ => fun
  | [d1, d2] => { results := [.lit (.bool true)], args := [d1, d2] }
  | _ => none }
def fnActSlopeRow : OpenClaim := { program := "ytnfimnfaejjagaa", sum := "5f5bc5569e09bdc3cca27b063c6a10fe63f6ab55957d4940a072d167944876ff", func := "loop.example/selvedge/laws.FnActSlope", spec := "fnActSlope", unfollowed := true, recurses := true, plainKeys := false, apart := false }
def FnActSlopeSaid : Prop := fnActSlopeRow.holds Try.pinned (OpenSpec.ofChange fnActSlopeSpec)

/-- ITS FALSE NEIGHBOUR: 'it returns false'. Refute it at one input. -/
def fnActSlopeWrong : ChangeSpec := { name := "fnActSlope", fn := fun _ => fun
  | [d1, d2] => { results := [.lit (.bool false)], args := [d1, d2] }
  | _ => none }
def FnActSlopeWrongFalsely : Prop := fnActSlopeRow.holds Try.pinned (OpenSpec.ofChange fnActSlopeWrong)

/-- 'laws.FnActAt': WHATEVER THE INPUT: true; the input reads as it did. -/
def fnActAtSpec : ChangeSpec := { name := "fnActAt", fn := fun _ => fun
  | [d1, d2] => { results := [.lit (.bool true)], args := [d1, d2] }
  | _ => none }
def fnActAtRow : OpenClaim := { program := "ytnfimnfaejjagaa", sum := "5f5bc5569e09bdc3cca27b063c6a10fe63f6ab55957d4940a072d167944876ff", func := "loop.example/selvedge/laws.FnActAt", spec := "fnActAt", unfollowed := true, recurses := true, plainKeys := false, apart := false }
def FnActAtSaid : Prop := fnActAtRow.holds Try.pinned (OpenSpec.ofChange fnActAtSpec)

/-- ITS FALSE NEIGHBOUR: 'it returns false'. Refute it at one input. -/
def fnActAtWrong : ChangeSpec := { name := "fnActAt", fn := fun _ => fun
  | [d1, d2] => { results := [.lit (.bool false)], args := [d1, d2] }
  | _ => none }
def FnActAtWrongFalsely : Prop := fnActAtRow.holds Try.pinned (OpenSpec.ofChange fnActAtWrong)

/-- 'laws.FnDoEuler': WHATEVER THE INPUT: true; the input reads as it did. -/
def fnDoEulerSpec : ChangeSpec := { name := "fnDoEuler", fn := fun _ => fun
  | [d] => { results := [.lit (.bool true)], args := [d] }
  | _ => none }
def fnDoEulerRow : OpenClaim := { program := "ytnfimnfaejjagaa", sum := "5f5bc5569e09bdc3cca27b063c6a10fe63f6ab55957d4940a072d167944876ff", func := "loop.example/selvedge/laws.FnDoEuler", spec := "fnDoEuler", unfollowed := true, recurses := true, plainKeys := false, apart := false }
def FnDoEulerSaid : Prop := fnDoEulerRow.holds Try.pinned (OpenSpec.ofChange fnDoEulerSpec)

/-- ITS FALSE NEIGHBOUR: 'it returns false'. Refute it at one input. -/
def fnDoEulerWrong : ChangeSpec := { name := "fnDoEuler", fn := fun _ => fun
  | [d] => { results := [.lit (.bool false)], args := [d] }
  | _ => none }
def FnDoEulerWrongFalsely : Prop := fnDoEulerRow.holds Try.pinned (OpenSpec.ofChange fnDoEulerWrong)

/- THE SECOND FORM. 'bulk': how many values and letters a reading holds, each counted each time it is reached (what is shared counts as often as it is met; a slice's spare places count too). A statement '..UptoSaid' is the law's where the arguments, and the package variables that the reading takes, are together of bulk at most 1048576: NARROWER than '..Said'. Prove '..Said' where nothing that the law and all that it calls make is longer than what came in: it says more and counts as full. Else prove '..UptoSaid'. A law counts once. -/
mutual
def uptoBulk {H : Type} : DataW H → Nat
  | .lit (.string bytes) => bytes.length + 1
  | .lit _ => 1
  | .nil => 1
  | .ptr d => uptoBulk d + 1
  | .slice elems spare => uptoBulkAll elems + uptoBulkAll spare + 1
  | .agg parts => uptoBulkAll parts + 1
  | .iface _ d => uptoBulk d + 1
  | .map entries => uptoBulkEntries entries + 1
  | .held _ => 1
def uptoBulkAll {H : Type} : List (DataW H) → Nat
  | [] => 0
  | d :: r => uptoBulk d + uptoBulkAll r
def uptoBulkEntries {H : Type} : List (Lit × DataW H) → Nat
  | [] => 0
  | x :: r => uptoBulkEntry x + uptoBulkEntries r
def uptoBulkEntry {H : Type} : Lit × DataW H → Nat
  | (.string bytes, d) => bytes.length + uptoBulk d + 1
  | (_, d) => uptoBulk d + 1
 end
def uptoSmall : (H : Type) → List (DataW H) → Bool := fun _ ds => decide (uptoBulkAll ds ≤ 1048576)
def OpenSpec.upto (s : _root_.Go.ChangeSpec) : _root_.Go.OpenSpec := { _root_.Go.OpenSpec.ofChange s with cond := some uptoSmall }

/-- 'laws.FnDoProduct', WHERE WHAT IT READS IS OF BULK AT MOST 1048576: true; the input reads as it did. -/
def fnDoProductUptoRow : OpenClaim := { program := "ytnfimnfaejjagaa", sum := "5f5bc5569e09bdc3cca27b063c6a10fe63f6ab55957d4940a072d167944876ff", func := "loop.example/selvedge/laws.FnDoProduct", spec := "fnDoProduct", unfollowed := true, recurses := true, plainKeys := false, apart := false, narrowed := true }
def FnDoProductUptoSaid : Prop := fnDoProductUptoRow.holds Try.pinned (OpenSpec.upto fnDoProductSpec)

/-- 'laws.FnDoSum', WHERE WHAT IT READS IS OF BULK AT MOST 1048576: true; the input reads as it did. -/
def fnDoSumUptoRow : OpenClaim := { program := "ytnfimnfaejjagaa", sum := "5f5bc5569e09bdc3cca27b063c6a10fe63f6ab55957d4940a072d167944876ff", func := "loop.example/selvedge/laws.FnDoSum", spec := "fnDoSum", unfollowed := true, recurses := true, plainKeys := false, apart := false, narrowed := true }
def FnDoSumUptoSaid : Prop := fnDoSumUptoRow.holds Try.pinned (OpenSpec.upto fnDoSumSpec)

/-- 'laws.FnDoFaith', WHERE WHAT IT READS IS OF BULK AT MOST 1048576: true; the input reads as it did. -/
def fnDoFaithUptoRow : OpenClaim := { program := "ytnfimnfaejjagaa", sum := "5f5bc5569e09bdc3cca27b063c6a10fe63f6ab55957d4940a072d167944876ff", func := "loop.example/selvedge/laws.FnDoFaith", spec := "fnDoFaith", unfollowed := true, recurses := true, plainKeys := false, apart := false, narrowed := true }
def FnDoFaithUptoSaid : Prop := fnDoFaithUptoRow.holds Try.pinned (OpenSpec.upto fnDoFaithSpec)

/-- 'laws.FnActSlope', WHERE WHAT IT READS IS OF BULK AT MOST 1048576: true; the input reads as it did. -/
def fnActSlopeUptoRow : OpenClaim := { program := "ytnfimnfaejjagaa", sum := "5f5bc5569e09bdc3cca27b063c6a10fe63f6ab55957d4940a072d167944876ff", func := "loop.example/selvedge/laws.FnActSlope", spec := "fnActSlope", unfollowed := true, recurses := true, plainKeys := false, apart := false, narrowed := true }
def FnActSlopeUptoSaid : Prop := fnActSlopeUptoRow.holds Try.pinned (OpenSpec.upto fnActSlopeSpec)

/-- 'laws.FnActAt', WHERE WHAT IT READS IS OF BULK AT MOST 1048576: true; the input reads as it did. -/
def fnActAtUptoRow : OpenClaim := { program := "ytnfimnfaejjagaa", sum := "5f5bc5569e09bdc3cca27b063c6a10fe63f6ab55957d4940a072d167944876ff", func := "loop.example/selvedge/laws.FnActAt", spec := "fnActAt", unfollowed := true, recurses := true, plainKeys := false, apart := false, narrowed := true }
def FnActAtUptoSaid : Prop := fnActAtUptoRow.holds Try.pinned (OpenSpec.upto fnActAtSpec)

/-- 'laws.FnDoEuler', WHERE WHAT IT READS IS OF BULK AT MOST 1048576: true; the input reads as it did. -/
def fnDoEulerUptoRow : OpenClaim := { program := "ytnfimnfaejjagaa", sum := "5f5bc5569e09bdc3cca27b063c6a10fe63f6ab55957d4940a072d167944876ff", func := "loop.example/selvedge/laws.FnDoEuler", spec := "fnDoEuler", unfollowed := true, recurses := true, plainKeys := false, apart := false, narrowed := true }
def FnDoEulerUptoSaid : Prop := fnDoEulerUptoRow.holds Try.pinned (OpenSpec.upto fnDoEulerSpec)

end Rows
end Go.Proofs.Ytnfimnfaejjagaa
