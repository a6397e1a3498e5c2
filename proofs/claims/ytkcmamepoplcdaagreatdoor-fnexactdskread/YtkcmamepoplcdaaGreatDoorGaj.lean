/-
  More of the program's chapter 2: how two monomials stand in an order, their product, what divides, what is left.
  Whether terms are an operator, in the program.
  How the rows' readings of terms are opened: a slice of terms that came in is a row of numbers, five a term.
-/
import Derived.Test.YtkcmamepoplcdaaGreatDoorGab
import Derived.Test.YtkcmamepoplcdaaGreatDoorGac
import Derived.Test.YtkcmamepoplcdaaGreatDoorGad
import Derived.ProofKit
import Derived.Deep.Slices
import Derived.Lib.SmallJoins
namespace Go.Proofs.YtkcmamepoplcdaaGreatDoor
open Go.RowKit
set_option linter.unusedVariables false

theorem c3_of {a b a' b' : Int} (h1 : a < b ↔ a' < b') (h2 : b < a ↔ b' < a') : c3 a b = c3 a' b' := by unfold c3; simp only [h1, h2]
theorem rk_lex {a b : M} (ha : a.ok = true) (hb : b.ok = true) : c3 (rkL a) (rkL b) = M.lex a b := by
  obtain ⟨x1, x2, y1, y2, d1, d2, e1, e2⟩ := M.ok_iff.1 ha
  obtain ⟨x3, x4, y3, y4, d3, d4, e3, e4⟩ := M.ok_iff.1 hb
  by_cases hd : a.d = b.d
  · by_cases he : a.e = b.e
    · by_cases hx : a.x = b.x
      · have h : M.lex a b = c3 a.y b.y := by simp [M.lex, hd, he, hx]
        rw [h]; exact c3_of (by unfold rkL; omega) (by unfold rkL; omega)
      · have h : M.lex a b = c3 a.x b.x := by simp [M.lex, hd, he, hx]
        rw [h]; exact c3_of (by unfold rkL; omega) (by unfold rkL; omega)
    · have h : M.lex a b = c3 a.e b.e := by simp [M.lex, hd, he]
      rw [h]; exact c3_of (by unfold rkL; omega) (by unfold rkL; omega)
  · have h : M.lex a b = c3 a.d b.d := by simp [M.lex, hd]
    rw [h]; exact c3_of (by unfold rkL; omega) (by unfold rkL; omega)
theorem rk_deg {a b : M} (ha : a.ok = true) (hb : b.ok = true) : c3 (rkD a) (rkD b) = M.ord 1 a b := by
  obtain ⟨x1, x2, y1, y2, d1, d2, e1, e2⟩ := M.ok_iff.1 ha
  obtain ⟨x3, x4, y3, y4, d3, d4, e3, e4⟩ := M.ok_iff.1 hb
  have da : a.deg = a.x + a.y + a.d + a.e := by simp [M.deg, ha]
  have db : b.deg = b.x + b.y + b.d + b.e := by simp [M.deg, hb]
  have la : 0 ≤ rkL a ∧ rkL a ≤ 65535 := by simp only [rkL]; omega
  have lb : 0 ≤ rkL b ∧ rkL b ≤ 65535 := by simp only [rkL]; omega
  by_cases h : a.deg = b.deg
  · have e1 : M.ord 1 a b = M.lex a b := by simp [M.ord, h]
    rw [e1, ← rk_lex ha hb]
    rw [da, db] at h
    exact c3_of (by unfold rkD; omega) (by unfold rkD; omega)
  · have e1 : M.ord 1 a b = c3 a.deg b.deg := by simp [M.ord, h]
    rw [e1, da, db]
    rw [da, db] at h
    exact c3_of (by unfold rkD; omega) (by unfold rkD; omega)
theorem rk_out {a b : M} (ha : a.ok = true) (hb : b.ok = true) : c3 (rkO a) (rkO b) = M.ord 3 a b := by
  obtain ⟨x1, x2, y1, y2, d1, d2, e1, e2⟩ := M.ok_iff.1 ha
  obtain ⟨x3, x4, y3, y4, d3, d4, e3, e4⟩ := M.ok_iff.1 hb
  have la : 0 ≤ rkL a ∧ rkL a ≤ 65535 := by simp only [rkL]; omega
  have lb : 0 ≤ rkL b ∧ rkL b ≤ 65535 := by simp only [rkL]; omega
  by_cases h : a.d + a.x = b.d + b.x
  · have e1 : M.ord 3 a b = M.lex a b := by simp [M.ord, h]
    rw [e1, ← rk_lex ha hb]
    exact c3_of (by unfold rkO; omega) (by unfold rkO; omega)
  · have e1 : M.ord 3 a b = c3 (a.d + a.x) (b.d + b.x) := by simp [M.ord, h]
    rw [e1]
    exact c3_of (by unfold rkO; omega) (by unfold rkO; omega)
theorem rk_two {a b : M} (ha : a.ok = true) (hb : b.ok = true) : c3 (rkL a) (rkL b) = M.ord 2 a b := by
  rw [rk_lex ha hb]; simp [M.ord]
theorem nanI (a : Int) (w : World) : Calls Tryz.prog 194 #[.int .i64 a] w fun r w' => r = .returned (.bool false) ∧ w' = w := by
  go_enter Tryz.func194, Tryz.ntmps194
  go_wp2
  go_ret
  exact ⟨by simp, rfl⟩
theorem compareI (a b : Int) (w : World) : Calls Tryz.prog 176 #[.int .i64 a, .int .i64 b] w fun r w' => r = .returned (.int .i64 (c3 a b)) ∧ w' = w := by
  by_cases h1 : a < b
  · have e1 : c3 a b = -1 := by simp [c3, h1]
    rw [e1]
    go_enter Tryz.func176, Tryz.ntmps176
    go_wp2_with (first | (go_at_call 194; refine (nanI _ _).mono ?_; rintro r w' ⟨rfl, rfl⟩))
    go_ret
    exact ⟨rfl, rfl⟩
  · by_cases h2 : b < a
    · have e1 : c3 a b = 1 := by simp [c3, h1, h2]
      rw [e1]
      go_enter Tryz.func176, Tryz.ntmps176
      go_wp2_with (first | (go_at_call 194; refine (nanI _ _).mono ?_; rintro r w' ⟨rfl, rfl⟩))
      go_ret
      exact ⟨rfl, rfl⟩
    · have e1 : c3 a b = 0 := by simp [c3, h1, h2]
      rw [e1]
      go_enter Tryz.func176, Tryz.ntmps176
      go_wp2_with (first | (go_at_call 194; refine (nanI _ _).mono ?_; rintro r w' ⟨rfl, rfl⟩))
      go_ret
      exact ⟨rfl, rfl⟩
set_option maxHeartbeats 1000000 in
theorem monMulI (x y d e x' y' d' e' : Int) (w : World) :
    Calls Tryz.prog 143 #[.agg #[.int .i64 x, .int .i64 y, .int .i64 d, .int .i64 e], .agg #[.int .i64 x', .int .i64 y', .int .i64 d', .int .i64 e']] w fun r w' => r = .returned (.tuple #[.agg #[.int .i64 (M.mul ⟨x, y, d, e⟩ ⟨x', y', d', e'⟩).1.x, .int .i64 (M.mul ⟨x, y, d, e⟩ ⟨x', y', d', e'⟩).1.y, .int .i64 (M.mul ⟨x, y, d, e⟩ ⟨x', y', d', e'⟩).1.d, .int .i64 (M.mul ⟨x, y, d, e⟩ ⟨x', y', d', e'⟩).1.e], .bool (M.mul ⟨x, y, d, e⟩ ⟨x', y', d', e'⟩).2]) ∧ Below w.heap.size w w' := by
  cases ha : M.ok ⟨x, y, d, e⟩
  · have r1 : M.mul ⟨x, y, d, e⟩ ⟨x', y', d', e'⟩ = (M.zero, false) := by simp [M.mul, ha]
    rw [r1]
    simp only [M.zero]
    go_enter Tryz.func143, Tryz.ntmps143
    go_wp2_with fail
    refine (monOkI _ _ _ _ _).mono ?_
    rw [ha]
    rintro r w1 ⟨rfl, hb1⟩
    obtain ⟨hc1, hf1⟩ := bcell hb1
    have hz1 : w.heap.size + 1 + 1 < w1.heap.size := by have := hb1.size; simp at this; omega
    go_wp2
    refine bodyPost_ret (v := .tuple #[.agg #[.int .i64 0, .int .i64 0, .int .i64 0, .int .i64 0], .bool false]) (by simp [results, Tryz.results143, go_sem, *]) rfl ⟨rfl, ?_⟩
    exact bel_set4 (bel_next (bel_three w _ _ _) hb1) (by omega) _ _ _ _
  · cases hb : M.ok ⟨x', y', d', e'⟩
    · have r1 : M.mul ⟨x, y, d, e⟩ ⟨x', y', d', e'⟩ = (M.zero, false) := by simp [M.mul, hb]
      rw [r1]
      simp only [M.zero]
      clear r1
      go_enter Tryz.func143, Tryz.ntmps143
      go_wp2_with fail
      refine (monOkI _ _ _ _ _).mono ?_
      rw [ha]
      rintro r w1 ⟨rfl, hb1⟩
      obtain ⟨hc1, hf1⟩ := bcell hb1
      have hz1 : w.heap.size + 1 + 1 < w1.heap.size := by have := hb1.size; simp at this; omega
      go_wp2_with fail
      refine (monOkI _ _ _ _ _).mono ?_
      rw [hb]
      rintro r w2 ⟨rfl, hb2⟩
      obtain ⟨hc2, hf2⟩ := bcell hb2
      have hz2 : w.heap.size + 1 + 1 < w2.heap.size := by have := hb2.size; omega
      go_wp2
      refine bodyPost_ret (v := .tuple #[.agg #[.int .i64 0, .int .i64 0, .int .i64 0, .int .i64 0], .bool false]) (by simp [results, Tryz.results143, go_sem, *]) rfl ⟨rfl, ?_⟩
      exact bel_set4 (bel_next (bel_next (bel_three w _ _ _) hb1) hb2) (by omega) _ _ _ _
    · obtain ⟨x1, x2, y1, y2, d1, d2, e1, e2⟩ := M.ok_iff.1 ha
      obtain ⟨x3, x4, y3, y4, d3, d4, e3, e4⟩ := M.ok_iff.1 hb
      simp only at x1 x2 y1 y2 d1 d2 e1 e2 x3 x4 y3 y4 d3 d4 e3 e4
      cases hs : M.ok ⟨x + x', y + y', d + d', e + e'⟩
      · have r1 : M.mul ⟨x, y, d, e⟩ ⟨x', y', d', e'⟩ = (M.zero, false) := by simp [M.mul, M.sum, hs]
        rw [r1]
        simp only [M.zero]
        clear r1
        go_enter Tryz.func143, Tryz.ntmps143
        go_wp2_with fail
        refine (monOkI _ _ _ _ _).mono ?_
        rw [ha]
        rintro r w1 ⟨rfl, hb1⟩
        obtain ⟨hc1, hf1⟩ := bcell hb1
        have hz1 : w.heap.size + 1 + 1 < w1.heap.size := by have := hb1.size; simp at this; omega
        have hz0 : w.heap.size + 1 < w1.heap.size := by omega
        have hzz : w.heap.size < w1.heap.size := by omega
        go_wp2_with fail
        refine (monOkI _ _ _ _ _).mono ?_
        rw [hb]
        rintro r w2 ⟨rfl, hb2⟩
        obtain ⟨hc2, hf2⟩ := bcell hb2
        have hz2 : w.heap.size + 1 + 1 < w2.heap.size := by have := hb2.size; omega
        go_wp2_with fail
        refine (monOkI _ _ _ _ _).mono ?_
        rw [hs]
        rintro r w3 ⟨rfl, hb3⟩
        obtain ⟨hc3, hf3⟩ := bcell (bel_next ((Below.refl w2.heap.size w2).alloc (Nat.le_refl _) _) hb3)
        have ht : ∀ i, w3.cell? ⟨w2.heap.size, i, none⟩ = #[Value.int .i64 (x + x'), .int .i64 (y + y'), .int .i64 (d + d'), .int .i64 (e + e')][i]? := fun i => by
          rw [hb3.cell (p := ⟨w2.heap.size, i, none⟩) (by simp), World.cell?_alloc_at _ _ _ _ rfl]
        have hB := bel_next ((bel_next (bel_next (bel_three w _ _ _) hb1) hb2).alloc (bel_next (bel_next (bel_three w _ _ _) hb1) hb2).size _) hb3
        go_wp2
        refine bodyPost_ret (v := .tuple #[.agg #[.int .i64 0, .int .i64 0, .int .i64 0, .int .i64 0], .bool false]) (by simp [results, Tryz.results143, go_sem, *]) rfl ⟨rfl, ?_⟩
        exact bel_set4 hB (by omega) _ _ _ _
      · have r1 : M.mul ⟨x, y, d, e⟩ ⟨x', y', d', e'⟩ = (⟨x + x', y + y', d + d', e + e'⟩, true) := by simp [M.mul, M.sum, hs, ha, hb]
        rw [r1]
        clear r1
        go_enter Tryz.func143, Tryz.ntmps143
        go_wp2_with fail
        refine (monOkI _ _ _ _ _).mono ?_
        rw [ha]
        rintro r w1 ⟨rfl, hb1⟩
        obtain ⟨hc1, hf1⟩ := bcell hb1
        have hz1 : w.heap.size + 1 + 1 < w1.heap.size := by have := hb1.size; simp at this; omega
        have hz0 : w.heap.size + 1 < w1.heap.size := by omega
        have hzz : w.heap.size < w1.heap.size := by omega
        go_wp2_with fail
        refine (monOkI _ _ _ _ _).mono ?_
        rw [hb]
        rintro r w2 ⟨rfl, hb2⟩
        obtain ⟨hc2, hf2⟩ := bcell hb2
        have hz2 : w.heap.size + 1 + 1 < w2.heap.size := by have := hb2.size; omega
        go_wp2_with fail
        refine (monOkI _ _ _ _ _).mono ?_
        rw [hs]
        rintro r w3 ⟨rfl, hb3⟩
        obtain ⟨hc3, hf3⟩ := bcell (bel_next ((Below.refl w2.heap.size w2).alloc (Nat.le_refl _) _) hb3)
        have ht : ∀ i, w3.cell? ⟨w2.heap.size, i, none⟩ = #[Value.int .i64 (x + x'), .int .i64 (y + y'), .int .i64 (d + d'), .int .i64 (e + e')][i]? := fun i => by
          rw [hb3.cell (p := ⟨w2.heap.size, i, none⟩) (by simp), World.cell?_alloc_at _ _ _ _ rfl]
        have hB := bel_next ((bel_next (bel_next (bel_three w _ _ _) hb1) hb2).alloc (bel_next (bel_next (bel_three w _ _ _) hb1) hb2).size _) hb3
        go_wp2
        refine bodyPost_ret (v := .tuple #[.agg #[.int .i64 (x + x'), .int .i64 (y + y'), .int .i64 (d + d'), .int .i64 (e + e')], .bool true]) (by simp [results, Tryz.results143, go_sem, *]) rfl ⟨rfl, ?_⟩
        exact bel_set4 hB (by omega) _ _ _ _
end Go.Proofs.YtkcmamepoplcdaaGreatDoor
namespace Go.Proofs.YtkcmamepoplcdaaGreatDoor
open Go.RowKit
set_option linter.unusedVariables false

theorem ord_pos {a b : M} (ha : a.ok = true) (hb : b.ok = true) : 0 < M.ord 1 a b ↔ rkD b < rkD a := by
  rw [← rk_deg ha hb]; unfold c3; constructor
  · intro h; split at h
    · omega
    · split at h <;> omega
  · intro h; rw [if_neg (by omega), if_pos h]; decide
def termOk (c : Int) (m : M) : Bool := decide (1 ≤ c ∧ c ≤ 100) && m.ok
set_option maxHeartbeats 400000 in
theorem polTermOkI (c x y d e : Int) (w : World) :
    Calls Tryz.prog 87 #[.int .i64 c, .agg #[.int .i64 x, .int .i64 y, .int .i64 d, .int .i64 e]] w fun r w' => r = .returned (.bool (termOk c ⟨x, y, d, e⟩)) ∧ Below w.heap.size w w' := by
  by_cases h0 : c = 0
  · subst h0
    have e1 : termOk 0 ⟨x, y, d, e⟩ = false := by simp [termOk]
    rw [e1]
    go_enter Tryz.func87, Tryz.ntmps87
    go_wp2
    go_ret
    exact ⟨rfl, bel_one w _⟩
  · have hz : (c != 0) = true := by simp [h0]
    by_cases hc : 0 ≤ c ∧ c ≤ 100
    · obtain ⟨c1, c2⟩ := hc
      have e1 : termOk c ⟨x, y, d, e⟩ = M.ok ⟨x, y, d, e⟩ := by
        have : 1 ≤ c ∧ c ≤ 100 := by omega
        simp [termOk, this]
      rw [e1]
      clear h0 e1
      go_enter Tryz.func87, Tryz.ntmps87
      go_wp2_with (go_at_call 124; refine (okI_in _ _ c1 c2).mono ?_; rintro r w' ⟨rfl, rfl⟩)
      refine (monOkI _ _ _ _ _).mono ?_
      rintro r w1 ⟨rfl, hb⟩
      go_wp2
      go_ret
      exact ⟨rfl, bel_next (bel_one w _) hb⟩
    · have hc' : c < 0 ∨ 100 < c := by omega
      have e1 : termOk c ⟨x, y, d, e⟩ = false := by
        have : ¬ (1 ≤ c ∧ c ≤ 100) := by omega
        simp [termOk, this]
      rw [e1]
      clear hc e1 h0
      go_enter Tryz.func87, Tryz.ntmps87
      go_wp2_with (go_at_call 124; refine (okI_out _ _ hc').mono ?_; rintro r w' ⟨rfl, rfl⟩)
      go_ret
      exact ⟨rfl, bel_one w _⟩
theorem polTermOkI_of {c x y d e : Int} {b : Bool} (h : termOk c ⟨x, y, d, e⟩ = b) (w : World) :
    Calls Tryz.prog 87 #[.int .i64 c, .agg #[.int .i64 x, .int .i64 y, .int .i64 d, .int .i64 e]] w fun r w' => r = .returned (.bool b) ∧ Below w.heap.size w w' := by
  rw [← h]; exact polTermOkI c x y d e w
theorem okAt_term {f : Nat → T} {k : Nat} (h : okAt f k = true) : termOk (f k).c (f k).m = true := by
  simp only [okAt, Bool.and_eq_true] at h
  simp only [termOk, Bool.and_eq_true]
  exact h.1
set_option maxRecDepth 100000 in
set_option maxHeartbeats 4000000 in
theorem polOkI (w : World) (a : Option Addr) (n cap : Nat) (f : Nat → T) (h : Rd w a n cap f) :
    Calls Tryz.prog 57 #[.slice a n cap] w fun r w' => r = .returned (.bool (polOk n f)) ∧ Below w.heap.size w w' := by
  obtain ⟨h1, h2, h3⟩ := h
  have hn : (n : Int) ≤ 140737488351232 := by omega
  by_cases hl : n ≤ 400
  · have hl' : (n : Int) ≤ 400 := by omega
    go_enter Tryz.func57, Tryz.ntmps57
    go_wp2
    go_loopw [10] (fun i wr => ∃ k : Nat, k ≤ n ∧ i = .int .i64 k ∧ Below w.heap.size w wr ∧ ∀ j, j < k → okAt f j = true) (fun i _ => n - (intOf i).toNat)
    case atStart => exact ⟨0, Nat.zero_le _, rfl, Below.refl _ _, fun j hj => absurd hj (Nat.not_lt_zero _)⟩
    case round =>
      obtain ⟨k, hk, rfl, hB, hok⟩ := hrel
      by_cases hlt : k < n
      · rcases h3 with h0 | ⟨b, off, rfl, hblt, hcl⟩
        · omega
        have hkn : (k : Int) < (n : Int) := by omega
        have hbr : b < wr.heap.size := Nat.lt_of_lt_of_le hblt hB.size
        obtain ⟨g0, g1, g2, g3, g4⟩ := (hcl k hlt).below hB hblt
        have hno : okAt f k = false → polOk n f = false := fun hf => by
          simp only [polOk, decide_eq_false_iff_not]
          intro hh
          have := hh.2 k hlt
          rw [hf] at this
          cases this
        cases ht : termOk (f k).c (f k).m
        · have HF : Hid (polOk n f = false) := hno (by
            cases h : okAt f k
            · rfl
            · rw [okAt_term h] at ht; cases ht)
          clear hno hcl hok
          go_wp2_with fail
          refine (polTermOkI_of ht _).mono ?_
          rintro r w1 ⟨rfl, hb⟩
          have HB := Hid.mk' (bel_next (hB.alloc hB.size _) hb)
          clear hb
          go_wp2
          go_ret
          exact ⟨by rw [HF.out]; rfl, HB.out⟩
        · have hm : (f k).m.ok = true := by simp only [termOk, Bool.and_eq_true] at ht; exact ht.2
          have HM := Hid.mk' hm
          have HCL := Hid.mk' hcl
          have HOK := Hid.mk' hok
          have HNO := Hid.mk' hno
          clear hcl hok hno hm
          go_wp2_with fail
          refine (polTermOkI_of ht _).mono ?_
          rintro r w1 ⟨rfl, hb⟩
          have HB := Hid.mk' (bel_next (hB.alloc hB.size _) hb)
          have hb1 : b < w1.heap.size := by have := hb.size; simp at this; omega
          have hb2 : wr.heap.size < w1.heap.size := by have := hb.size; simp at this; omega
          have hq : ∀ i v, #[Value.int .i64 (f k).c, .int .i64 (f k).m.x, .int .i64 (f k).m.y, .int .i64 (f k).m.d, .int .i64 (f k).m.e][i]? = some v → w1.cell? ⟨wr.heap.size, i, none⟩ = some v := fun i v hv => by
            rw [hb.cell (p := ⟨wr.heap.size, i, none⟩) (by simp), World.cell?_alloc_at _ _ _ _ rfl]; exact hv
          have ne := Ext.there w1
          have s1 : ∀ u : Ext w1, u.1.cell? ⟨wr.heap.size, 1, none⟩ = some (.int .i64 (f k).m.x) := fun u => (u.cell hb2).trans (hq 1 _ rfl)
          have s2 : ∀ u : Ext w1, u.1.cell? ⟨wr.heap.size, 2, none⟩ = some (.int .i64 (f k).m.y) := fun u => (u.cell hb2).trans (hq 2 _ rfl)
          have s3 : ∀ u : Ext w1, u.1.cell? ⟨wr.heap.size, 3, none⟩ = some (.int .i64 (f k).m.d) := fun u => (u.cell hb2).trans (hq 3 _ rfl)
          have s4 : ∀ u : Ext w1, u.1.cell? ⟨wr.heap.size, 4, none⟩ = some (.int .i64 (f k).m.e) := fun u => (u.cell hb2).trans (hq 4 _ rfl)
          have HBK := Hid.mk' hB
          clear hq hb g0 g1 g2 g3 g4 hB
          by_cases hk0 : k = 0
          · have ht' : okAt f k = true := by
              simp only [okAt, termOk, Bool.and_eq_true] at ht ⊢
              exact ⟨ht, by simp [hk0]⟩
            have hok' : Hid (∀ j, j < k + 1 → okAt f j = true) := fun j hj => by
              by_cases hjk : j = k
              · rw [hjk]; exact ht'
              · exact HOK.out j (by omega)
            have dk : decide (0 < k) = false := decide_eq_false (by omega)
            clear ht' hk0 ht
            go_wp2_with fail
            refine wp_region_ext (by kernel_rfl) (by kernel_rfl) ?_
            repeat (go_big_quiet_step (fail))
            refine wpQuiet_nil ?_
            rintro _ ⟨u, rfl⟩
            go_wp2
            go_roundw
            case rel => exact ⟨k + 1, by omega, by go_num, HB.out.trans (u.2.mono HB.out.size), hok'.out⟩
            case measure => simp [intOf]; omega
          · have hj : k - 1 < n := by omega
            have hcj := ((HCL.out (k - 1) hj).below HBK.out hblt)
            have hcj1 : Cells w1 b (off + (k - 1) * 5) (f (k - 1)) := (HCL.out (k - 1) hj).below HB.out hblt
            have p1 : ∀ u : Ext w1, u.1.cell? ⟨b, off + (k - 1) * 5 + 1, none⟩ = some (.int .i64 (f (k - 1)).m.x) := fun u => (u.cell hb1).trans hcj1.2.1
            have p2 : ∀ u : Ext w1, u.1.cell? ⟨b, off + (k - 1) * 5 + 2, none⟩ = some (.int .i64 (f (k - 1)).m.y) := fun u => (u.cell hb1).trans hcj1.2.2.1
            have p3 : ∀ u : Ext w1, u.1.cell? ⟨b, off + (k - 1) * 5 + 3, none⟩ = some (.int .i64 (f (k - 1)).m.d) := fun u => (u.cell hb1).trans hcj1.2.2.2.1
            have p4 : ∀ u : Ext w1, u.1.cell? ⟨b, off + (k - 1) * 5 + 4, none⟩ = some (.int .i64 (f (k - 1)).m.e) := fun u => (u.cell hb1).trans hcj1.2.2.2.2
            have hmp : (f (k - 1)).m.ok = true := by
              have := okAt_term (HOK.out (k - 1) (by omega))
              simp only [termOk, Bool.and_eq_true] at this
              exact this.2
            have HMP := Hid.mk' hmp
            clear hcj hcj1
            have dk : decide (0 < k) = true := decide_eq_true (by omega)
            have hk1 : (0 : Int) < (k : Int) := by omega
            have hk2 : (k : Int) - 1 < (n : Int) := by omega
            have hk3 : (0 : Int) ≤ (k : Int) - 1 := by omega
            by_cases hq : rkD (f k).m < rkD (f (k - 1)).m
            · have ht' : okAt f k = true := by
                simp only [okAt, termOk, Bool.and_eq_true] at ht ⊢
                exact ⟨ht, by rw [decide_eq_true ((ord_pos hmp HM.out).2 hq)]; simp⟩
              have hok' : Hid (∀ j, j < k + 1 → okAt f j = true) := fun j hj => by
                by_cases hjk : j = k
                · rw [hjk]; exact ht'
                · exact HOK.out j (by omega)
              have dq : decide (rkD ⟨(f (k - 1)).m.x, (f (k - 1)).m.y, (f (k - 1)).m.d, (f (k - 1)).m.e⟩ ≤ rkD ⟨(f k).m.x, (f k).m.y, (f k).m.d, (f k).m.e⟩) = false := decide_eq_false (Int.not_le.2 hq)
              clear ht' hk0 ht hq hmp
              go_wp2_with fail
              refine wp_region_ext (by kernel_rfl) (by kernel_rfl) ?_
              repeat (go_big_quiet_step (first | (go_at_call 88; exact ext_grows (rankDegI _ _ _ _ _ HMP.out)) | (go_at_call 88; exact ext_grows (rankDegI _ _ _ _ _ HM.out))))
              refine wpQuiet_nil ?_
              rintro _ ⟨u, rfl⟩
              go_wp2
              go_roundw
              case rel => exact ⟨k + 1, by omega, by go_num, HB.out.trans (u.2.mono HB.out.size), hok'.out⟩
              case measure => simp [intOf]; omega
            · have HF : Hid (polOk n f = false) := HNO.out (by
                cases hx : okAt f k
                · rfl
                · exfalso
                  simp only [okAt, Bool.and_eq_true, Bool.or_eq_true, decide_eq_true_eq] at hx
                  rcases hx.2 with h0 | h0
                  · exact hk0 h0
                  · exact hq ((ord_pos hmp HM.out).1 h0))
              have dq : decide (rkD ⟨(f (k - 1)).m.x, (f (k - 1)).m.y, (f (k - 1)).m.d, (f (k - 1)).m.e⟩ ≤ rkD ⟨(f k).m.x, (f k).m.y, (f k).m.d, (f k).m.e⟩) = true := decide_eq_true (Int.not_lt.1 hq)
              clear hk0 ht hq hmp
              go_wp2_with fail
              refine wp_region_ext (by kernel_rfl) (by kernel_rfl) ?_
              repeat (go_big_quiet_step (first | (go_at_call 88; exact ext_grows (rankDegI _ _ _ _ _ HMP.out)) | (go_at_call 88; exact ext_grows (rankDegI _ _ _ _ _ HM.out))))
              refine wpQuiet_nil ?_
              rintro _ ⟨u, rfl⟩
              go_wp2
              go_ret
              exact ⟨by rw [HF.out]; rfl, HB.out.trans (u.2.mono HB.out.size)⟩
      · go_wp2
        go_ret
        have hp : polOk n f = true := by
          simp only [polOk, decide_eq_true_eq]
          exact ⟨hl, fun i hi => hok i (by omega)⟩
        exact ⟨by rw [hp]; rfl, hB⟩
  · have hl' : (400 : Int) < (n : Int) := by omega
    have hp : polOk n f = false := by
      simp only [polOk, decide_eq_false_iff_not]
      exact fun h => hl h.1
    rw [hp]
    go_enter Tryz.func57, Tryz.ntmps57
    go_wp2
    go_ret
    exact ⟨rfl, Below.refl _ _⟩
end Go.Proofs.YtkcmamepoplcdaaGreatDoor
namespace Go.Proofs.YtkcmamepoplcdaaGreatDoor
open Go.RowKit Go.Deep Go.Joins
set_option linter.unusedVariables false

/-- A slice of terms that came in. -/
def IsTerms (w : World) (a : Option Addr) (n cap : Nat) (f : Nat → T) : Prop :=
  n ≤ cap ∧ cap ≤ maxLen ∧ (n = 0 ∨ ∃ b off, a = some ⟨b, off, none⟩ ∧ b < w.heap.size ∧ ∀ i, i < n → Cells w b (off + i * 5) (f i))
theorem IsTerms.rd {w : World} {a : Option Addr} {n cap : Nat} {f : Nat → T} (h : IsTerms w a n cap f) (hn : n * 40 ≤ 140737488351232) : Rd w a n cap f := ⟨h.1, hn, h.2.2⟩
end Go.Proofs.YtkcmamepoplcdaaGreatDoor
