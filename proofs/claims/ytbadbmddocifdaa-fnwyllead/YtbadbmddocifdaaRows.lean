/-
  No cell of these rows narrows 'for every input' (looked for: loops, veiled, ifaces, maps, wideKeys, modest, calm, conditions, laid).
  DERIVED. THE GIVEN ROWS OF THIS SEAT. 6 by the template 'for every input the law returns true; each argument reads behind the call as it read before'; 0 by the template 'total and deterministic' (their statements: YtbadbmddocifdaaTotals.lean).
  GIVEN WITH THE SEED: the statements are not yours to turn. If you find one false, say at which input.
  Laid BY PROGRAM, IN A SANDBOX (cutbox-rows.mjs): the forced cells as the released guide's own fill.sh prints them over the translation 782b5c06a2482e1c… (all of the seat's roots in one cut). By AI agents, Wed Nov 11 2026. No macro, syntax, notation, axiom, sorry.
-/
import Derived.Test.YtbadbmddocifdaaChecked
import GoSem.Claim
import GoSem.ClaimJoined
import GoSem.ClaimMapViews
import Derived.JoinedTies
import Derived.KernelRfl
namespace Go.Proofs.Ytbadbmddocifdaa
/- THE CELL 'sum', in the pinned program and in every row, IS THE sha256 OF THE DUMP (.gsa) THAT YtbadbmddocifdaaProg.lean LOADS. Nothing in Lean hashes anything: it is a label: what it is worth is what the hold of that sum in a sandbox is worth. -/
noncomputable def Try.pinned : Pinned := { name := "ytbadbmddocifdaa", sum := "782b5c06a2482e1cd872f0249a53a461499fb61b695824c723960af006ec19e7", checked := Try.checked }
namespace Rows
def none {H : Type} : Left H := { results := [], args := [] }

/-- 'laws.FnWylAssoc': WHATEVER THE INPUT: true; the input reads as it did. -/
def fnWylAssocSpec : ChangeSpec := { name := "fnWylAssoc", fn := fun _ => fun
  | [d1, d2] => { results := [.lit (.bool true)], args := [d1, d2] }
  | _ => none }
def fnWylAssocRow : OpenClaim := { program := "ytbadbmddocifdaa", sum := "782b5c06a2482e1cd872f0249a53a461499fb61b695824c723960af006ec19e7", func := "loop.example/selvedge/laws.FnWylAssoc", spec := "fnWylAssoc", unfollowed := true, recurses := true, plainKeys := false, apart := false }
def FnWylAssocSaid : Prop := fnWylAssocRow.holds Try.pinned (OpenSpec.ofChange fnWylAssocSpec)

/-- ITS FALSE NEIGHBOUR: 'it returns false'. Refute it at one input. -/
def fnWylAssocWrong : ChangeSpec := { name := "fnWylAssoc", fn := fun _ => fun
  | [d1, d2] => { results := [.lit (.bool false)], args := [d1, d2] }
  | _ => none }
def FnWylAssocWrongFalsely : Prop := fnWylAssocRow.holds Try.pinned (OpenSpec.ofChange fnWylAssocWrong)

/-- 'laws.FnWylSpread': WHATEVER THE INPUT: true; the input reads as it did. -/
def fnWylSpreadSpec : ChangeSpec := { name := "fnWylSpread", fn := fun _ => fun
  | [d1, d2] => { results := [.lit (.bool true)], args := [d1, d2] }
  | _ => none }
def fnWylSpreadRow : OpenClaim := { program := "ytbadbmddocifdaa", sum := "782b5c06a2482e1cd872f0249a53a461499fb61b695824c723960af006ec19e7", func := "loop.example/selvedge/laws.FnWylSpread", spec := "fnWylSpread", unfollowed := true, recurses := true, plainKeys := false, apart := false }
def FnWylSpreadSaid : Prop := fnWylSpreadRow.holds Try.pinned (OpenSpec.ofChange fnWylSpreadSpec)

/-- ITS FALSE NEIGHBOUR: 'it returns false'. Refute it at one input. -/
def fnWylSpreadWrong : ChangeSpec := { name := "fnWylSpread", fn := fun _ => fun
  | [d1, d2] => { results := [.lit (.bool false)], args := [d1, d2] }
  | _ => none }
def FnWylSpreadWrongFalsely : Prop := fnWylSpreadRow.holds Try.pinned (OpenSpec.ofChange fnWylSpreadWrong)

/-- 'laws.FnWylPow': WHATEVER THE INPUT: true; the input reads as it did. -/
def fnWylPowSpec : ChangeSpec := { name := "fnWylPow", fn := fun _ => fun
  | [d] => { results := [.lit (.bool true)], args := [d] }
  | _ => none }
def fnWylPowRow : OpenClaim := { program := "ytbadbmddocifdaa", sum := "782b5c06a2482e1cd872f0249a53a461499fb61b695824c723960af006ec19e7", func := "loop.example/selvedge/laws.FnWylPow", spec := "fnWylPow", unfollowed := true, recurses := true, plainKeys := false, apart := false }
def FnWylPowSaid : Prop := fnWylPowRow.holds Try.pinned (OpenSpec.ofChange fnWylPowSpec)

/-- ITS FALSE NEIGHBOUR: 'it returns false'. Refute it at one input. -/
def fnWylPowWrong : ChangeSpec := { name := "fnWylPow", fn := fun _ => fun
  | [d] => { results := [.lit (.bool false)], args := [d] }
  | _ => none }
def FnWylPowWrongFalsely : Prop := fnWylPowRow.holds Try.pinned (OpenSpec.ofChange fnWylPowWrong)

/-- 'laws.FnWylRule': WHATEVER THE INPUT: true; the input reads as it did. -/
def fnWylRuleSpec : ChangeSpec := { name := "fnWylRule", fn := fun _ => fun
  | [d1, d2] => { results := [.lit (.bool true)], args := [d1, d2] }
  | _ => none }
def fnWylRuleRow : OpenClaim := { program := "ytbadbmddocifdaa", sum := "782b5c06a2482e1cd872f0249a53a461499fb61b695824c723960af006ec19e7", func := "loop.example/selvedge/laws.FnWylRule", spec := "fnWylRule", unfollowed := true, recurses := true, plainKeys := false, apart := false }
def FnWylRuleSaid : Prop := fnWylRuleRow.holds Try.pinned (OpenSpec.ofChange fnWylRuleSpec)

/-- ITS FALSE NEIGHBOUR: 'it returns false'. Refute it at one input. -/
def fnWylRuleWrong : ChangeSpec := { name := "fnWylRule", fn := fun _ => fun
  | [d1, d2] => { results := [.lit (.bool false)], args := [d1, d2] }
  | _ => none }
def FnWylRuleWrongFalsely : Prop := fnWylRuleRow.holds Try.pinned (OpenSpec.ofChange fnWylRuleWrong)

/-- 'laws.FnWylJacobi': WHATEVER THE INPUT: true; the input reads as it did. -/
def fnWylJacobiSpec : ChangeSpec := { name := "fnWylJacobi", fn := fun _ => fun
  | [d1, d2] => { results := [.lit (.bool true)], args := [d1, d2] }
  | _ => none }
def fnWylJacobiRow : OpenClaim := { program := "ytbadbmddocifdaa", sum := "782b5c06a2482e1cd872f0249a53a461499fb61b695824c723960af006ec19e7", func := "loop.example/selvedge/laws.FnWylJacobi", spec := "fnWylJacobi", unfollowed := true, recurses := true, plainKeys := false, apart := false }
def FnWylJacobiSaid : Prop := fnWylJacobiRow.holds Try.pinned (OpenSpec.ofChange fnWylJacobiSpec)

/-- ITS FALSE NEIGHBOUR: 'it returns false'. Refute it at one input. -/
def fnWylJacobiWrong : ChangeSpec := { name := "fnWylJacobi", fn := fun _ => fun
  | [d1, d2] => { results := [.lit (.bool false)], args := [d1, d2] }
  | _ => none }
def FnWylJacobiWrongFalsely : Prop := fnWylJacobiRow.holds Try.pinned (OpenSpec.ofChange fnWylJacobiWrong)

/-- 'laws.FnWylLead': WHATEVER THE INPUT: true; the input reads as it did. -/
def fnWylLeadSpec : ChangeSpec := { name := "fnWylLead", fn := fun _ => fun
  | [d] => { results := [.lit (.bool true)], args := [d] }
  | _ => none }
def fnWylLeadRow : OpenClaim := { program := "ytbadbmddocifdaa", sum := "782b5c06a2482e1cd872f0249a53a461499fb61b695824c723960af006ec19e7", func := "loop.example/selvedge/laws.FnWylLead", spec := "fnWylLead", unfollowed := true, recurses := true, plainKeys := false, apart := false }
def FnWylLeadSaid : Prop := fnWylLeadRow.holds Try.pinned (OpenSpec.ofChange fnWylLeadSpec)

/-- ITS FALSE NEIGHBOUR: 'it returns false'. Refute it at one input. -/
def fnWylLeadWrong : ChangeSpec := { name := "fnWylLead", fn := fun _ => fun
  | [d] => { results := [.lit (.bool false)], args := [d] }
  | _ => none }
def FnWylLeadWrongFalsely : Prop := fnWylLeadRow.holds Try.pinned (OpenSpec.ofChange fnWylLeadWrong)

/- THE SECOND FORM. 'bulk': how many values and letters a reading holds, each counted each time it is reached (what is shared counts as often as it is met; a slice's spare places count too). A statement '..UptoSaid' is the law's where the arguments, and the package variables that the reading takes, are together of bulk at most 1048576: NARROWER than '..Said'. Prove '..Said' where nothing that the law and all that it calls make is longer than what came in: it says more and counts as full. Else prove '..UptoSaid'. A law counts once. -/
mutual
def uptoBulk {H : Type} : DataW H → Nat
  | .lit (.string bytes) => bytes.length + 1
  | .lit _ => 1
  | .nil => 1
  | .ptr d => uptoBulk d + 1
  | .slice elems spare => uptoBulkAll elems + uptoBulkAll spare + 1
  | .agg parts => uptoBulkAll parts + 1
  | .iface _ d => uptoBulk d + 1
  | .map entries => uptoBulkEntries entries + 1
  | .held _ => 1
def uptoBulkAll {H : Type} : List (DataW H) → Nat
  | [] => 0
  | d :: r => uptoBulk d + uptoBulkAll r
def uptoBulkEntries {H : Type} : List (Lit × DataW H) → Nat
  | [] => 0
  | x :: r => uptoBulkEntry x + uptoBulkEntries r
def uptoBulkEntry {H : Type} : Lit × DataW H → Nat
  | (.string bytes, d) => bytes.length + uptoBulk d + 1
  | (_, d) => uptoBulk d + 1
 end
def uptoSmall : (H : Type) → List (DataW H) → Bool := fun _ ds => decide (uptoBulkAll ds ≤ 1048576)
def OpenSpec.upto (s : _root_.Go.ChangeSpec) : _root_.Go.OpenSpec := { _root_.Go.OpenSpec.ofChange s with cond := some uptoSmall }

/-- 'laws.FnWylAssoc', WHERE WHAT IT READS IS OF BULK AT MOST 1048576: true; the input reads as it did. -/
def fnWylAssocUptoRow : OpenClaim := { program := "ytbadbmddocifdaa", sum := "782b5c06a2482e1cd872f0249a53a461499fb61b695824c723960af006ec19e7", func := "loop.example/selvedge/laws.FnWylAssoc", spec := "fnWylAssoc", unfollowed := true, recurses := true, plainKeys := false, apart := false, narrowed := true }
def FnWylAssocUptoSaid : Prop := fnWylAssocUptoRow.holds Try.pinned (OpenSpec.upto fnWylAssocSpec)

/-- 'laws.FnWylSpread', WHERE WHAT IT READS IS OF BULK AT MOST 1048576: true; the input reads as it did. -/
def fnWylSpreadUptoRow : OpenClaim := { program := "ytbadbmddocifdaa", sum := "782b5c06a2482e1cd872f0249a53a461499fb61b695824c723960af006ec19e7", func := "loop.example/selvedge/laws.FnWylSpread", spec := "fnWylSpread", unfollowed := true, recurses := true, plainKeys := false, apart := false, narrowed := true }
def FnWylSpreadUptoSaid : Prop := fnWylSpreadUptoRow.holds Try.pinned (OpenSpec.upto fnWylSpreadSpec)

/-- 'laws.FnWylPow', WHERE WHAT IT READS IS OF BULK AT MOST 1048576: true; the input reads as it did. -/
def fnWylPowUptoRow : OpenClaim := { program := "ytbadbmddocifdaa", sum := "782b5c06a2482e1cd872f0249a53a461499fb61b695824c723960af006ec19e7", func := "loop.example/selvedge/laws.FnWylPow", spec := "fnWylPow", unfollowed := true, recurses := true, plainKeys := false, apart := false, narrowed := true }
def FnWylPowUptoSaid : Prop := fnWylPowUptoRow.holds Try.pinned (OpenSpec.upto fnWylPowSpec)

/-- 'laws.FnWylRule', WHERE WHAT IT READS IS OF BULK AT MOST 1048576: true; the input reads as it did. -/
def fnWylRuleUptoRow : OpenClaim := { program := "ytbadbmddocifdaa", sum := "782b5c06a2482e1cd872f0249a53a461499fb61b695824c723960af006ec19e7", func := "loop.example/selvedge/laws.FnWylRule", spec := "fnWylRule", unfollowed := true, recurses := true, plainKeys := false, apart := false, narrowed := true }
def FnWylRuleUptoSaid : Prop := fnWylRuleUptoRow.holds Try.pinned (OpenSpec.upto fnWylRuleSpec)

/-- 'laws.FnWylJacobi', WHERE WHAT IT READS IS OF BULK AT MOST 1048576: true; the input reads as it did. -/
def fnWylJacobiUptoRow : OpenClaim := { program := "ytbadbmddocifdaa", sum := "782b5c06a2482e1cd872f0249a53a461499fb61b695824c723960af006ec19e7", func := "loop.example/selvedge/laws.FnWylJacobi", spec := "fnWylJacobi", unfollowed := true, recurses := true, plainKeys := false, apart := false, narrowed := true }
def FnWylJacobiUptoSaid : Prop := fnWylJacobiUptoRow.holds Try.pinned (OpenSpec.upto fnWylJacobiSpec)

/-- 'laws.FnWylLead', WHERE WHAT IT READS IS OF BULK AT MOST 1048576: true; the input reads as it did. -/
def fnWylLeadUptoRow : OpenClaim := { program := "ytbadbmddocifdaa", sum := "782b5c06a2482e1cd872f0249a53a461499fb61b695824c723960af006ec19e7", func := "loop.example/selvedge/laws.FnWylLead", spec := "fnWylLead", unfollowed := true, recurses := true, plainKeys := false, apart := false, narrowed := true }
def FnWylLeadUptoSaid : Prop := fnWylLeadUptoRow.holds Try.pinned (OpenSpec.upto fnWylLeadSpec)

end Rows
end Go.Proofs.Ytbadbmddocifdaa
