/-
  Sums while they are made: a map from monomials to numbers; what adding a term to it does.
-/
import Derived.Test.YtioecpiogpjlaaaMonoI
import Derived.Test.YtioecpiogpjlaaaWalks
import Derived.ProofKit
import Derived.Maps.OwnSet
import Derived.Maps.OwnOps
import Derived.Maps.Views
import Derived.Maps.AppendAt
namespace Go.Proofs.Ytioecpiogpjlaaa
open Go.RowKit Go.Maps
set_option linter.unusedVariables false

theorem laidOutK : laidOutB Try.prog = true := by kernel_rfl
theorem lawM : Keyed Try.prog 38 := Keyed.of_law (deep_law_laid laidOutK (m := 2) (by omega) (of_decide_eq_true (by kernel_rfl)) (by kernel_rfl) (by kernel_rfl))
theorem wf15 {n : Int} (h0 : 0 ≤ n) (h1 : n ≤ 15) : (Lit.int .i64 n).wf = true := WalkArith.wf_i64 (by omega)
/-- what a monomial reads as among the keys. -/
def keyM (m : M) : Lit := .string (keyBytes [.int .i64 m.x, .int .i64 m.y, .int .i64 m.d, .int .i64 m.e])
theorem keyOfM {m : M} (h : m.ok = true) : keyOf Try.prog 38 (.agg #[.int .i64 m.x, .int .i64 m.y, .int .i64 m.d, .int .i64 m.e]) = some (keyM m) := by
  obtain ⟨x1, x2, y1, y2, d1, d2, e1, e2⟩ := M.ok_iff.1 h
  have w1 := wf15 x1 x2
  have w2 := wf15 y1 y2
  have w3 := wf15 d1 d2
  have w4 := wf15 e1 e2
  have hk : Try.prog.keyType 38 = true := by kernel_rfl
  have hc : Try.prog.cellsOf 38 = 4 := by kernel_rfl
  have h1 : Try.prog.cellsOf 3 = 1 := by kernel_rfl
  obtain ⟨D, hD⟩ : ∃ D, Try.prog.types.size + 1 = D + 1 + 1 := ⟨Try.prog.types.size - 1, by have : 0 < Try.prog.types.size := of_decide_eq_true (by kernel_rfl); omega⟩
  unfold keyOf
  simp only [Try.underlying38, hk, hD, Value.formed, hc]
  simp [Program.keyLits, Try.underlying38, hc, h1, w1, w2, w3, w4, Value.cells, keyM]
theorem zeroN (w : World) : (zeroValue 54).run Try.prog w = .ok (.int .i64 0) w := by kernel_rfl
theorem wf100 {n : Int} (h0 : 0 ≤ n) (h1 : n ≤ 100) : (Lit.int .i64 n).wf = true := WalkArith.wf_i64 (by omega)
theorem ownsMap_more {w : World} {P : Program} {k : TypeId} {R : Value → Option (DataW Unit × List MemPlace)} {b n n' : Nat} {D : DataW Unit} (h : w.ownsMap P k R b n D) (hn : n ≤ n') : w.ownsMap P k R b n' D := by
  obtain ⟨es, clock, h1, h2, h3, h4⟩ := h
  exact ⟨es, clock, h1, h2, Nat.le_trans h3 hn, h4⟩
/-- what a sum's map reads as behind one more term. -/
def addD (D : DataW Unit) (m : M) (v : Int) : DataW Unit := if v = 0 then D.del (keyM m) else D.put (keyM m) (.lit (.int .i64 v))
set_option maxHeartbeats 1000000 in
theorem sumAdd (b n : Nat) (D : DataW Unit) (c0 c : Int) (m : M) (w : World) (hm : m.ok = true) (hown : w.ownsMap Try.prog 38 (plainElem Try.prog 54) b n D) (hn : n < maxLen)
    (hat : D.atKey (keyM m) (.lit (.int .i64 0)) = .lit (.int .i64 c0)) (a0 : 0 ≤ c0) (a1 : c0 ≤ 100) (h0 : 0 ≤ c) (h1 : c ≤ 100) :
    Calls Try.prog 36 #[.map (some b), .int .i64 c, .agg #[.int .i64 m.x, .int .i64 m.y, .int .i64 m.d, .int .i64 m.e]] w fun e w' => e = .returned (.tuple #[]) ∧ w'.ownsMap Try.prog 38 (plainElem Try.prog 54) b (n + 1) (addD D m ((c0 + c) % 101)) ∧ w.grownBy w' (some b) := by
  have hkey := keyOfM hm
  have r0 : 0 ≤ (c0 + c) % 101 := by omega
  have r1 : (c0 + c) % 101 ≤ 100 := by omega
  have hg0 := World.grownBy_alloc w (.cells #[.int .i64 m.x, .int .i64 m.y, .int .i64 m.d, .int .i64 m.e] 38) (some b)
  have ho0 := hown.alloc (.cells #[.int .i64 m.x, .int .i64 m.y, .int .i64 m.d, .int .i64 m.e] 38)
  by_cases hz : (c0 + c) % 101 = 0
  · have e1 : addD D m ((c0 + c) % 101) = D.del (keyM m) := by simp [addD, hz]
    rw [e1]
    go_enter Try.func36, Try.ntmps36
    go_wp2_with (first
      | (at_lookup; refine wpList_lookup_own_int _ rfl _ _ 49 rfl 38 54 .i64 lawM Try.underlying49 Try.underlying54 (zeroN _) b n D rfl ho0 _ _ rfl hkey ?_; intro c1 hat1 hwc1; obtain rfl : c1 = c0 := (by rw [hat] at hat1; simpa using hat1.symm))
      | (go_at_call 58; refine (plus _ _ _ a0 a1 h0 h1).mono ?_; rintro r w2 ⟨rfl, hw⟩; obtain rfl := hw.symm; clear hw)
      | (at_delete; refine wpList_delete_own _ rfl _ _ 49 38 rfl 54 lawM Try.underlying49 _ b n D rfl ho0 _ _ rfl hkey ?_; intro w1 hown1 hturn1)
      | go_in)
    refine bodyPost_ret (results_none rfl _ _ _) rfl ?_
    exact ⟨rfl, ownsMap_more hown1 (Nat.le_succ _), hg0.trans hturn1.grown⟩
  · have e1 : addD D m ((c0 + c) % 101) = D.put (keyM m) (.lit (.int .i64 ((c0 + c) % 101))) := by simp [addD, hz]
    rw [e1]
    have hzb : ((c0 + c) % 101 == 0) = false := by simpa using hz
    go_enter Try.func36, Try.ntmps36
    go_wp2_with (first
      | (at_lookup; refine wpList_lookup_own_int _ rfl _ _ 49 rfl 38 54 .i64 lawM Try.underlying49 Try.underlying54 (zeroN _) b n D rfl ho0 _ _ rfl hkey ?_; intro c1 hat1 hwc1; obtain rfl : c1 = c0 := (by rw [hat] at hat1; simpa using hat1.symm))
      | (go_at_call 58; refine (plus _ _ _ a0 a1 h0 h1).mono ?_; rintro r w2 ⟨rfl, hw⟩; obtain rfl := hw.symm; clear hw)
      | (at_mapUpdate; refine wpList_mapUpdate_own _ rfl _ _ _ 49 rfl 38 54 lawM Try.underlying49 _ b n D rfl ho0 hn _ _ _ rfl rfl hkey _ [] (plainElem_int Try.underlying54 (wf100 r0 r1)) ?_; intro w1 hown1 hgrow1)
      | go_in)
    go_end0
    exact ⟨rfl, hown1, hg0.trans hgrow1⟩
end Go.Proofs.Ytioecpiogpjlaaa
