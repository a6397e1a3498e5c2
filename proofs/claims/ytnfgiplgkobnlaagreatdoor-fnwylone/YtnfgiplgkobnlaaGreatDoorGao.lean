/-
  An operator, so many times, added to a sum.
  What a sum's numbers are behind an operator, so many times.
  What the functions of the program's chapter 3 return: whether terms are an operator, an operator of one term, the number of a monomial.
-/
import Derived.Test.YtnfgiplgkobnlaaGreatDoorGag
import Derived.Test.YtnfgiplgkobnlaaGreatDoorGae
import Derived.Deep.RegionWith
import Derived.Test.YtnfgiplgkobnlaaGreatDoorGaf
import Derived.Test.YtnfgiplgkobnlaaGreatDoorGac
import Derived.Test.YtnfgiplgkobnlaaGreatDoorGah
namespace Go.Proofs.YtnfgiplgkobnlaaGreatDoor
open Go.RowKit Go.Maps
set_option linter.unusedVariables false

end Go.Proofs.YtnfgiplgkobnlaaGreatDoor
namespace Go.Proofs.YtnfgiplgkobnlaaGreatDoor
open Go.RowKit
set_option linter.unusedVariables false

end Go.Proofs.YtnfgiplgkobnlaaGreatDoor
namespace Go.Proofs.YtnfgiplgkobnlaaGreatDoor
open Go.RowKit
set_option linter.unusedVariables false

theorem owns_nil (w : World) (lo : Nat) : w.ownsRow lo 45 5 (.slice none 0 0) 0 (cellsL []) := ⟨rfl, .inl ⟨rfl, rfl⟩⟩
set_option maxHeartbeats 1000000 in
theorem polOfI (c x y d e : Int) (w : World) :
    Calls Tryz.prog 18 #[.int .i64 c, .agg #[.int .i64 x, .int .i64 y, .int .i64 d, .int .i64 e]] w fun r w' => ∃ v, r = .returned v ∧ Below w.heap.size w w' ∧ w'.ownsRow w.heap.size 45 5 v (polOf c ⟨x, y, d, e⟩).length (cellsL (polOf c ⟨x, y, d, e⟩)) := by
  cases ht : termOk c ⟨x, y, d, e⟩
  · have e1 : polOf c ⟨x, y, d, e⟩ = [] := by
      unfold polOf
      rw [if_neg (fun h => by rw [termOk, decide_eq_true h.1, h.2] at ht; cases ht)]
    rw [e1]
    clear e1
    go_enter Tryz.func18, Tryz.ntmps18
    go_wp2_with fail
    refine (polTermOkI_of ht _).mono ?_
    rintro r w1 ⟨rfl, hb⟩
    have HB := Hid.mk' (bel_next (bel_one w _) hb)
    clear hb
    go_wp2
    go_ret
    exact ⟨_, rfl, HB.out, owns_nil w1 _⟩
  · have e1 : polOf c ⟨x, y, d, e⟩ = [⟨c, ⟨x, y, d, e⟩⟩] := by
      unfold polOf
      simp only [termOk, Bool.and_eq_true, decide_eq_true_eq] at ht
      rw [if_pos ht]
    rw [e1]
    clear e1
    go_enter Tryz.func18, Tryz.ntmps18
    go_wp2_with fail
    refine (polTermOkI_of ht _).mono ?_
    rintro r w1 ⟨rfl, hb⟩
    obtain ⟨hcl, hf⟩ := bcell hb
    have HB := Hid.mk' (bel_next (bel_one w _) hb)
    clear hb
    go_wp2
    go_ret
    exact ⟨_, rfl, HB.out.alloc HB.out.size _, World.ownsRow_lit w1 #[.int .i64 c, .int .i64 x, .int .i64 y, .int .i64 d, .int .i64 e] 1 HB.out.size (by decide) rfl⟩
end Go.Proofs.YtnfgiplgkobnlaaGreatDoor
