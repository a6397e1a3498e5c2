/-
  More of chapter 2's model: what divides, what is left, what both divide.
-/
import Derived.Test.YtahbekfhoidgjasMono
namespace Go.Proofs.Ytahbekfhoidgjas
open Go.RowKit
set_option linter.unusedVariables false

set_option maxHeartbeats 2000000 in
theorem monDividesS (x y d e x' y' d' e' : Int) (w : World) :
    Calls Try.prog 25 #[.agg #[.int .i64 x, .int .i64 y, .int .i64 d, .int .i64 e], .agg #[.int .i64 x', .int .i64 y', .int .i64 d', .int .i64 e']] w fun r w' => r = .returned (.bool (M.dvd ⟨x, y, d, e⟩ ⟨x', y', d', e'⟩)) ∧ Below w.heap.size w w' := by
  cases ha : M.ok ⟨x, y, d, e⟩
  · have r1 : M.dvd ⟨x, y, d, e⟩ ⟨x', y', d', e'⟩ = false := by simp [M.dvd, ha]
    rw [r1]
    clear r1
    go_enter Try.func25, Try.ntmps25
    go_wp2_with fail
    refine (monOkS_of ha _).mono ?_
    rintro r w1 ⟨rfl, hb1⟩
    go_wp2
    go_ret
    exact ⟨rfl, bel_next (bel_two w _ _) hb1⟩
  · cases hb : M.ok ⟨x', y', d', e'⟩
    · have r1 : M.dvd ⟨x, y, d, e⟩ ⟨x', y', d', e'⟩ = false := by simp [M.dvd, hb]
      rw [r1]
      clear r1
      go_enter Try.func25, Try.ntmps25
      go_wp2_with fail
      refine (monOkS_of ha _).mono ?_
      rintro r w1 ⟨rfl, hb1⟩
      obtain ⟨hc1, hf1⟩ := bcell hb1
      have hz1 : w.heap.size + 1 < w1.heap.size := by have := hb1.size; simp at this; omega
      have hy1 : w.heap.size < w1.heap.size := by omega
      go_wp2_with fail
      refine (monOkS_of hb _).mono ?_
      rintro r w2 ⟨rfl, hb2⟩
      obtain ⟨hc2, hf2⟩ := bcell hb2
      go_wp2
      go_ret
      exact ⟨rfl, bel_next (bel_next (bel_two w _ _) hb1) hb2⟩
    · skip
      by_cases h0 : x ≤ x'
      · have t0 : decide (x ≤ x') = true := decide_eq_true h0
        by_cases h1 : y ≤ y'
        · have t1 : decide (y ≤ y') = true := decide_eq_true h1
          by_cases h2 : d ≤ d'
          · have t2 : decide (d ≤ d') = true := decide_eq_true h2
            by_cases h3 : e ≤ e'
            · have t3 : decide (e ≤ e') = true := decide_eq_true h3
              have r1 : M.dvd ⟨x, y, d, e⟩ ⟨x', y', d', e'⟩ = true := by simp [M.dvd, ha, hb, h0, h1, h2, h3]
              rw [r1]
              clear r1
              go_enter Try.func25, Try.ntmps25
              go_wp2_with fail
              refine (monOkS_of ha _).mono ?_
              rintro r w1 ⟨rfl, hb1⟩
              obtain ⟨hc1, hf1⟩ := bcell hb1
              have hz1 : w.heap.size + 1 < w1.heap.size := by have := hb1.size; simp at this; omega
              have hy1 : w.heap.size < w1.heap.size := by omega
              go_wp2_with fail
              refine (monOkS_of hb _).mono ?_
              rintro r w2 ⟨rfl, hb2⟩
              obtain ⟨hc2, hf2⟩ := bcell hb2
              go_wp2
              go_ret
              exact ⟨rfl, bel_next (bel_next (bel_two w _ _) hb1) hb2⟩
            · have t3 : decide (e ≤ e') = false := decide_eq_false h3
              have r1 : M.dvd ⟨x, y, d, e⟩ ⟨x', y', d', e'⟩ = false := by simp [M.dvd, h3]
              rw [r1]
              clear r1
              go_enter Try.func25, Try.ntmps25
              go_wp2_with fail
              refine (monOkS_of ha _).mono ?_
              rintro r w1 ⟨rfl, hb1⟩
              obtain ⟨hc1, hf1⟩ := bcell hb1
              have hz1 : w.heap.size + 1 < w1.heap.size := by have := hb1.size; simp at this; omega
              have hy1 : w.heap.size < w1.heap.size := by omega
              go_wp2_with fail
              refine (monOkS_of hb _).mono ?_
              rintro r w2 ⟨rfl, hb2⟩
              obtain ⟨hc2, hf2⟩ := bcell hb2
              go_wp2
              go_ret
              exact ⟨rfl, bel_next (bel_next (bel_two w _ _) hb1) hb2⟩
          · have t2 : decide (d ≤ d') = false := decide_eq_false h2
            have r1 : M.dvd ⟨x, y, d, e⟩ ⟨x', y', d', e'⟩ = false := by simp [M.dvd, h2]
            rw [r1]
            clear r1
            go_enter Try.func25, Try.ntmps25
            go_wp2_with fail
            refine (monOkS_of ha _).mono ?_
            rintro r w1 ⟨rfl, hb1⟩
            obtain ⟨hc1, hf1⟩ := bcell hb1
            have hz1 : w.heap.size + 1 < w1.heap.size := by have := hb1.size; simp at this; omega
            have hy1 : w.heap.size < w1.heap.size := by omega
            go_wp2_with fail
            refine (monOkS_of hb _).mono ?_
            rintro r w2 ⟨rfl, hb2⟩
            obtain ⟨hc2, hf2⟩ := bcell hb2
            go_wp2
            go_ret
            exact ⟨rfl, bel_next (bel_next (bel_two w _ _) hb1) hb2⟩
        · have t1 : decide (y ≤ y') = false := decide_eq_false h1
          have r1 : M.dvd ⟨x, y, d, e⟩ ⟨x', y', d', e'⟩ = false := by simp [M.dvd, h1]
          rw [r1]
          clear r1
          go_enter Try.func25, Try.ntmps25
          go_wp2_with fail
          refine (monOkS_of ha _).mono ?_
          rintro r w1 ⟨rfl, hb1⟩
          obtain ⟨hc1, hf1⟩ := bcell hb1
          have hz1 : w.heap.size + 1 < w1.heap.size := by have := hb1.size; simp at this; omega
          have hy1 : w.heap.size < w1.heap.size := by omega
          go_wp2_with fail
          refine (monOkS_of hb _).mono ?_
          rintro r w2 ⟨rfl, hb2⟩
          obtain ⟨hc2, hf2⟩ := bcell hb2
          go_wp2
          go_ret
          exact ⟨rfl, bel_next (bel_next (bel_two w _ _) hb1) hb2⟩
      · have t0 : decide (x ≤ x') = false := decide_eq_false h0
        have r1 : M.dvd ⟨x, y, d, e⟩ ⟨x', y', d', e'⟩ = false := by simp [M.dvd, h0]
        rw [r1]
        clear r1
        go_enter Try.func25, Try.ntmps25
        go_wp2_with fail
        refine (monOkS_of ha _).mono ?_
        rintro r w1 ⟨rfl, hb1⟩
        obtain ⟨hc1, hf1⟩ := bcell hb1
        have hz1 : w.heap.size + 1 < w1.heap.size := by have := hb1.size; simp at this; omega
        have hy1 : w.heap.size < w1.heap.size := by omega
        go_wp2_with fail
        refine (monOkS_of hb _).mono ?_
        rintro r w2 ⟨rfl, hb2⟩
        obtain ⟨hc2, hf2⟩ := bcell hb2
        go_wp2
        go_ret
        exact ⟨rfl, bel_next (bel_next (bel_two w _ _) hb1) hb2⟩
theorem monDividesS_of {x y d e x' y' d' e' : Int} {b : Bool} (h : M.dvd ⟨x, y, d, e⟩ ⟨x', y', d', e'⟩ = b) (w : World) :
    Calls Try.prog 25 #[.agg #[.int .i64 x, .int .i64 y, .int .i64 d, .int .i64 e], .agg #[.int .i64 x', .int .i64 y', .int .i64 d', .int .i64 e']] w fun r w' => r = .returned (.bool b) ∧ Below w.heap.size w w' := by
  rw [← h]; exact monDividesS _ _ _ _ _ _ _ _ w
theorem M.dvd_iff {a b : M} (h : a.dvd b = true) : a.ok = true ∧ b.ok = true ∧ a.x ≤ b.x ∧ a.y ≤ b.y ∧ a.d ≤ b.d ∧ a.e ≤ b.e := by
  simp [M.dvd] at h
  exact ⟨h.1.1, h.1.2, h.2⟩
set_option maxHeartbeats 2000000 in
theorem monOverS (x y d e x' y' d' e' : Int) (w : World) :
    Calls Try.prog 8 #[.agg #[.int .i64 x, .int .i64 y, .int .i64 d, .int .i64 e], .agg #[.int .i64 x', .int .i64 y', .int .i64 d', .int .i64 e']] w fun r w' => r = .returned (.tuple #[.agg #[.int .i64 (M.over ⟨x, y, d, e⟩ ⟨x', y', d', e'⟩).1.x, .int .i64 (M.over ⟨x, y, d, e⟩ ⟨x', y', d', e'⟩).1.y, .int .i64 (M.over ⟨x, y, d, e⟩ ⟨x', y', d', e'⟩).1.d, .int .i64 (M.over ⟨x, y, d, e⟩ ⟨x', y', d', e'⟩).1.e], .bool (M.over ⟨x, y, d, e⟩ ⟨x', y', d', e'⟩).2]) ∧ Below w.heap.size w w' := by
  cases hd : M.dvd ⟨x', y', d', e'⟩ ⟨x, y, d, e⟩
  · have r1 : M.over ⟨x, y, d, e⟩ ⟨x', y', d', e'⟩ = (M.zero, false) := by simp [M.over, hd]
    rw [r1]
    simp only [M.zero]
    clear r1
    go_enter Try.func8, Try.ntmps8
    go_wp2_with fail
    refine (monDividesS_of hd _).mono ?_
    rintro r w1 ⟨rfl, hb1⟩
    obtain ⟨hc1, hf1⟩ := bcell hb1
    have hz1 : w.heap.size + 1 + 1 < w1.heap.size := by have := hb1.size; simp at this; omega
    go_wp2
    refine bodyPost_ret (v := .tuple #[.agg #[.int .i64 0, .int .i64 0, .int .i64 0, .int .i64 0], .bool false]) (by simp [results, Try.results8, go_sem, *]) rfl ⟨rfl, ?_⟩
    exact bel_set4 (bel_next (bel_three w _ _ _) hb1) (by omega) _ _ _ _
  · obtain ⟨o1, o2, l1, l2, l3, l4⟩ := M.dvd_iff hd
    obtain ⟨x1, x2, y1, y2, d1, d2, e1, e2⟩ := M.ok_iff.1 o1
    obtain ⟨x3, x4, y3, y4, d3, d4, e3, e4⟩ := M.ok_iff.1 o2
    simp only at x1 x2 y1 y2 d1 d2 e1 e2 x3 x4 y3 y4 d3 d4 e3 e4 l1 l2 l3 l4
    have r1 : M.over ⟨x, y, d, e⟩ ⟨x', y', d', e'⟩ = (⟨x - x', y - y', d - d', e - e'⟩, true) := by simp [M.over, hd, M.diff]
    rw [r1]
    clear r1 o1 o2
    go_enter Try.func8, Try.ntmps8
    go_wp2_with fail
    refine (monDividesS_of hd _).mono ?_
    rintro r w1 ⟨rfl, hb1⟩
    obtain ⟨hc1, hf1⟩ := bcell hb1
    have hz1 : w.heap.size + 1 + 1 < w1.heap.size := by have := hb1.size; simp at this; omega
    go_wp2
    refine bodyPost_ret (v := .tuple #[.agg #[.int .i64 (x - x'), .int .i64 (y - y'), .int .i64 (d - d'), .int .i64 (e - e')], .bool true]) (by simp [results, Try.results8, go_sem, *]) rfl ⟨rfl, ?_⟩
    exact bel_set4 (bel_next (bel_three w _ _ _) hb1) (by omega) _ _ _ _
theorem maxS (a b : Int) (w : World) :
    Calls Try.prog 28 #[.int .i64 a, .int .i64 b] w fun r w' => r = .returned (.int .i64 (mx a b)) ∧ w' = w := by
  by_cases h : b < a
  · have e1 : mx a b = a := if_pos h
    rw [e1]
    go_enter Try.func28, Try.ntmps28
    go_wp2
    go_ret
    exact ⟨rfl, rfl⟩
  · have e1 : mx a b = b := if_neg h
    rw [e1]
    go_enter Try.func28, Try.ntmps28
    go_wp2
    go_ret
    exact ⟨rfl, rfl⟩
theorem far4 {w : World} {B b o o0 o1 o2 o3 : Nat} {u0 u1 u2 u3 : Value} (h : b ≠ B) : ((((w.setCell ⟨B, o0, none⟩ u0).setCell ⟨B, o1, none⟩ u1).setCell ⟨B, o2, none⟩ u2).setCell ⟨B, o3, none⟩ u3).cell? ⟨b, o, none⟩ = w.cell? ⟨b, o, none⟩ := by
  refine World.cell?_of_block ?_
  rw [Below.heap_setCell _ _ _ _ h, Below.heap_setCell _ _ _ _ h, Below.heap_setCell _ _ _ _ h, Below.heap_setCell _ _ _ _ h]
end Go.Proofs.Ytahbekfhoidgjas
