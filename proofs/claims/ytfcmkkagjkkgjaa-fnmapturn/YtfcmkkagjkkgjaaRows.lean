/-
  No cell of these rows narrows 'for every input' (looked for: loops, veiled, ifaces, maps, wideKeys, modest, calm, conditions, laid).
  DERIVED. THE GIVEN ROWS OF THIS SEAT. 6 by the template 'for every input the law returns true; each argument reads behind the call as it read before'; 0 by the template 'total and deterministic' (their statements: YtfcmkkagjkkgjaaTotals.lean).
  GIVEN WITH THE SEED: the statements are not yours to turn. If you find one false, say at which input.
  Laid BY PROGRAM, IN A SANDBOX (cutbox-rows.mjs): the forced cells as the released guide's own fill.sh prints them over the translation 748f819a8a0f0616… (all of the seat's roots in one cut). By AI agents, Wed Nov 11 2026. No macro, syntax, notation, axiom, sorry.
-/
import Derived.Test.YtfcmkkagjkkgjaaChecked
import GoSem.Claim
import GoSem.ClaimJoined
import GoSem.ClaimMapViews
import Derived.JoinedTies
import Derived.KernelRfl
namespace Go.Proofs.Ytfcmkkagjkkgjaa
/- THE CELL 'sum', in the pinned program and in every row, IS THE sha256 OF THE DUMP (.gsa) THAT YtfcmkkagjkkgjaaProg.lean LOADS. Nothing in Lean hashes anything: it is a label: what it is worth is what the hold of that sum in a sandbox is worth. -/
noncomputable def Try.pinned : Pinned := { name := "ytfcmkkagjkkgjaa", sum := "748f819a8a0f061691b7ed79fe8369751dce1db53625aba21f2b91e8b1d68408", checked := Try.checked }
namespace Rows
def none {H : Type} : Left H := { results := [], args := [] }

/-- 'laws.FnMapRound': WHATEVER THE INPUT: true; the input reads as it did. -/
def fnMapRoundSpec : ChangeSpec := { name := "fnMapRound", fn := fun _ => fun
  | [d1, d2] => { results := [.lit (.bool true)], args := [d1, d2] }
  | _ => none }
def fnMapRoundRow : OpenClaim := { program := "ytfcmkkagjkkgjaa", sum := "748f819a8a0f061691b7ed79fe8369751dce1db53625aba21f2b91e8b1d68408", func := "loop.example/selvedge/laws.FnMapRound", spec := "fnMapRound", unfollowed := true, recurses := true, plainKeys := false, apart := false }
def FnMapRoundSaid : Prop := fnMapRoundRow.holds Try.pinned (OpenSpec.ofChange fnMapRoundSpec)

/-- ITS FALSE NEIGHBOUR: 'it returns false'. Refute it at one input. -/
def fnMapRoundWrong : ChangeSpec := { name := "fnMapRound", fn := fun _ => fun
  | [d1, d2] => { results := [.lit (.bool false)], args := [d1, d2] }
  | _ => none }
def FnMapRoundWrongFalsely : Prop := fnMapRoundRow.holds Try.pinned (OpenSpec.ofChange fnMapRoundWrong)

/-- 'laws.FnMapBack': WHATEVER THE INPUT: true; the input reads as it did. -/
def fnMapBackSpec : ChangeSpec := { name := "fnMapBack", fn := fun _ => fun
  | [d1, d2] => { results := [.lit (.bool true)], args := [d1, d2] }
  | _ => none }
def fnMapBackRow : OpenClaim := { program := "ytfcmkkagjkkgjaa", sum := "748f819a8a0f061691b7ed79fe8369751dce1db53625aba21f2b91e8b1d68408", func := "loop.example/selvedge/laws.FnMapBack", spec := "fnMapBack", unfollowed := true, recurses := true, plainKeys := false, apart := false }
def FnMapBackSaid : Prop := fnMapBackRow.holds Try.pinned (OpenSpec.ofChange fnMapBackSpec)

/-- ITS FALSE NEIGHBOUR: 'it returns false'. Refute it at one input. -/
def fnMapBackWrong : ChangeSpec := { name := "fnMapBack", fn := fun _ => fun
  | [d1, d2] => { results := [.lit (.bool false)], args := [d1, d2] }
  | _ => none }
def FnMapBackWrongFalsely : Prop := fnMapBackRow.holds Try.pinned (OpenSpec.ofChange fnMapBackWrong)

/-- 'laws.FnMapSwap': WHATEVER THE INPUT: true; the input reads as it did. -/
def fnMapSwapSpec : ChangeSpec := { name := "fnMapSwap", fn := fun _ => fun
  | [d1, d2] => { results := [.lit (.bool true)], args := [d1, d2] }
  | _ => none }
def fnMapSwapRow : OpenClaim := { program := "ytfcmkkagjkkgjaa", sum := "748f819a8a0f061691b7ed79fe8369751dce1db53625aba21f2b91e8b1d68408", func := "loop.example/selvedge/laws.FnMapSwap", spec := "fnMapSwap", unfollowed := true, recurses := true, plainKeys := false, apart := false }
def FnMapSwapSaid : Prop := fnMapSwapRow.holds Try.pinned (OpenSpec.ofChange fnMapSwapSpec)

/-- ITS FALSE NEIGHBOUR: 'it returns false'. Refute it at one input. -/
def fnMapSwapWrong : ChangeSpec := { name := "fnMapSwap", fn := fun _ => fun
  | [d1, d2] => { results := [.lit (.bool false)], args := [d1, d2] }
  | _ => none }
def FnMapSwapWrongFalsely : Prop := fnMapSwapRow.holds Try.pinned (OpenSpec.ofChange fnMapSwapWrong)

/-- 'laws.FnMapTurn': WHATEVER THE INPUT: true; the input reads as it did. -/
def fnMapTurnSpec : ChangeSpec := { name := "fnMapTurn", fn := fun _ => fun
  | [d1, d2] => { results := [.lit (.bool true)], args := [d1, d2] }
  | _ => none }
def fnMapTurnRow : OpenClaim := { program := "ytfcmkkagjkkgjaa", sum := "748f819a8a0f061691b7ed79fe8369751dce1db53625aba21f2b91e8b1d68408", func := "loop.example/selvedge/laws.FnMapTurn", spec := "fnMapTurn", unfollowed := true, recurses := true, plainKeys := false, apart := false }
def FnMapTurnSaid : Prop := fnMapTurnRow.holds Try.pinned (OpenSpec.ofChange fnMapTurnSpec)

/-- ITS FALSE NEIGHBOUR: 'it returns false'. Refute it at one input. -/
def fnMapTurnWrong : ChangeSpec := { name := "fnMapTurn", fn := fun _ => fun
  | [d1, d2] => { results := [.lit (.bool false)], args := [d1, d2] }
  | _ => none }
def FnMapTurnWrongFalsely : Prop := fnMapTurnRow.holds Try.pinned (OpenSpec.ofChange fnMapTurnWrong)

/-- 'laws.FnMapMeet': WHATEVER THE INPUT: true; the input reads as it did. -/
def fnMapMeetSpec : ChangeSpec := { name := "fnMapMeet", fn := fun _ => fun
  | [d] => { results := [.lit (.bool true)], args := [d] }
  | _ => none }
def fnMapMeetRow : OpenClaim := { program := "ytfcmkkagjkkgjaa", sum := "748f819a8a0f061691b7ed79fe8369751dce1db53625aba21f2b91e8b1d68408", func := "loop.example/selvedge/laws.FnMapMeet", spec := "fnMapMeet", unfollowed := true, recurses := true, plainKeys := false, apart := false }
def FnMapMeetSaid : Prop := fnMapMeetRow.holds Try.pinned (OpenSpec.ofChange fnMapMeetSpec)

/-- ITS FALSE NEIGHBOUR: 'it returns false'. Refute it at one input. -/
def fnMapMeetWrong : ChangeSpec := { name := "fnMapMeet", fn := fun _ => fun
  | [d] => { results := [.lit (.bool false)], args := [d] }
  | _ => none }
def FnMapMeetWrongFalsely : Prop := fnMapMeetRow.holds Try.pinned (OpenSpec.ofChange fnMapMeetWrong)

/-- 'laws.FnComMul': WHATEVER THE INPUT: true; the input reads as it did. -/
def fnComMulSpec : ChangeSpec := { name := "fnComMul", fn := fun _ => fun
  | [d1, d2] => { results := [.lit (.bool true)], args := [d1, d2] }
  | _ => none }
def fnComMulRow : OpenClaim := { program := "ytfcmkkagjkkgjaa", sum := "748f819a8a0f061691b7ed79fe8369751dce1db53625aba21f2b91e8b1d68408", func := "loop.example/selvedge/laws.FnComMul", spec := "fnComMul", unfollowed := true, recurses := true, plainKeys := false, apart := false }
def FnComMulSaid : Prop := fnComMulRow.holds Try.pinned (OpenSpec.ofChange fnComMulSpec)

/-- ITS FALSE NEIGHBOUR: 'it returns false'. Refute it at one input. -/
def fnComMulWrong : ChangeSpec := { name := "fnComMul", fn := fun _ => fun
  | [d1, d2] => { results := [.lit (.bool false)], args := [d1, d2] }
  | _ => none }
def FnComMulWrongFalsely : Prop := fnComMulRow.holds Try.pinned (OpenSpec.ofChange fnComMulWrong)

/- THE SECOND FORM. 'bulk': how many values and letters a reading holds, each counted each time it is reached (what is shared counts as often as it is met; a slice's spare places count too). A statement '..UptoSaid' is the law's where the arguments, and the package variables that the reading takes, are together of bulk at most 1048576: NARROWER than '..Said'. Prove '..Said' where nothing that the law and all that it calls make is longer than what came in: it says more and counts as full. Else prove '..UptoSaid'. A law counts once. -/
mutual
def uptoBulk {H : Type} : DataW H → Nat
  | .lit (.string bytes) => bytes.length + 1
  | .lit _ => 1
  | .nil => 1
  | .ptr d => uptoBulk d + 1
  | .slice elems spare => uptoBulkAll elems + uptoBulkAll spare + 1
  | .agg parts => uptoBulkAll parts + 1
  | .iface _ d => uptoBulk d + 1
  | .map entries => uptoBulkEntries entries + 1
  | .held _ => 1
def uptoBulkAll {H : Type} : List (DataW H) → Nat
  | [] => 0
  | d :: r => uptoBulk d + uptoBulkAll r
def uptoBulkEntries {H : Type} : List (Lit × DataW H) → Nat
  | [] => 0
  | x :: r => uptoBulkEntry x + uptoBulkEntries r
def uptoBulkEntry {H : Type} : Lit × DataW H → Nat
  | (.string bytes, d) => bytes.length + uptoBulk d + 1
  | (_, d) => uptoBulk d + 1
 end
def uptoSmall : (H : Type) → List (DataW H) → Bool := fun _ ds => decide (uptoBulkAll ds ≤ 1048576)
def OpenSpec.upto (s : _root_.Go.ChangeSpec) : _root_.Go.OpenSpec := { _root_.Go.OpenSpec.ofChange s with cond := some uptoSmall }

/-- 'laws.FnMapRound', WHERE WHAT IT READS IS OF BULK AT MOST 1048576: true; the input reads as it did. -/
def fnMapRoundUptoRow : OpenClaim := { program := "ytfcmkkagjkkgjaa", sum := "748f819a8a0f061691b7ed79fe8369751dce1db53625aba21f2b91e8b1d68408", func := "loop.example/selvedge/laws.FnMapRound", spec := "fnMapRound", unfollowed := true, recurses := true, plainKeys := false, apart := false, narrowed := true }
def FnMapRoundUptoSaid : Prop := fnMapRoundUptoRow.holds Try.pinned (OpenSpec.upto fnMapRoundSpec)

/-- 'laws.FnMapBack', WHERE WHAT IT READS IS OF BULK AT MOST 1048576: true; the input reads as it did. -/
def fnMapBackUptoRow : OpenClaim := { program := "ytfcmkkagjkkgjaa", sum := "748f819a8a0f061691b7ed79fe8369751dce1db53625aba21f2b91e8b1d68408", func := "loop.example/selvedge/laws.FnMapBack", spec := "fnMapBack", unfollowed := true, recurses := true, plainKeys := false, apart := false, narrowed := true }
def FnMapBackUptoSaid : Prop := fnMapBackUptoRow.holds Try.pinned (OpenSpec.upto fnMapBackSpec)

/-- 'laws.FnMapSwap', WHERE WHAT IT READS IS OF BULK AT MOST 1048576: true; the input reads as it did. -/
def fnMapSwapUptoRow : OpenClaim := { program := "ytfcmkkagjkkgjaa", sum := "748f819a8a0f061691b7ed79fe8369751dce1db53625aba21f2b91e8b1d68408", func := "loop.example/selvedge/laws.FnMapSwap", spec := "fnMapSwap", unfollowed := true, recurses := true, plainKeys := false, apart := false, narrowed := true }
def FnMapSwapUptoSaid : Prop := fnMapSwapUptoRow.holds Try.pinned (OpenSpec.upto fnMapSwapSpec)

/-- 'laws.FnMapTurn', WHERE WHAT IT READS IS OF BULK AT MOST 1048576: true; the input reads as it did. -/
def fnMapTurnUptoRow : OpenClaim := { program := "ytfcmkkagjkkgjaa", sum := "748f819a8a0f061691b7ed79fe8369751dce1db53625aba21f2b91e8b1d68408", func := "loop.example/selvedge/laws.FnMapTurn", spec := "fnMapTurn", unfollowed := true, recurses := true, plainKeys := false, apart := false, narrowed := true }
def FnMapTurnUptoSaid : Prop := fnMapTurnUptoRow.holds Try.pinned (OpenSpec.upto fnMapTurnSpec)

/-- 'laws.FnMapMeet', WHERE WHAT IT READS IS OF BULK AT MOST 1048576: true; the input reads as it did. -/
def fnMapMeetUptoRow : OpenClaim := { program := "ytfcmkkagjkkgjaa", sum := "748f819a8a0f061691b7ed79fe8369751dce1db53625aba21f2b91e8b1d68408", func := "loop.example/selvedge/laws.FnMapMeet", spec := "fnMapMeet", unfollowed := true, recurses := true, plainKeys := false, apart := false, narrowed := true }
def FnMapMeetUptoSaid : Prop := fnMapMeetUptoRow.holds Try.pinned (OpenSpec.upto fnMapMeetSpec)

/-- 'laws.FnComMul', WHERE WHAT IT READS IS OF BULK AT MOST 1048576: true; the input reads as it did. -/
def fnComMulUptoRow : OpenClaim := { program := "ytfcmkkagjkkgjaa", sum := "748f819a8a0f061691b7ed79fe8369751dce1db53625aba21f2b91e8b1d68408", func := "loop.example/selvedge/laws.FnComMul", spec := "fnComMul", unfollowed := true, recurses := true, plainKeys := false, apart := false, narrowed := true }
def FnComMulUptoSaid : Prop := fnComMulUptoRow.holds Try.pinned (OpenSpec.upto fnComMulSpec)

end Rows
end Go.Proofs.Ytfcmkkagjkkgjaa
