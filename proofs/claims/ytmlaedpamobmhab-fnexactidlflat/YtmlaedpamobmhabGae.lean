/-
  More of the program's chapter 2: how two monomials stand in an order, their product, what divides, what is left.
  Whether terms are an operator, in the program.
  What the model's sum of two rows of terms returns: they are merged, the greater term first.
-/
import Derived.Test.YtmlaedpamobmhabGad
import Derived.Test.YtmlaedpamobmhabGab
import Derived.Test.YtmlaedpamobmhabGac
import Derived.Deep.AppendLies
namespace Go.Proofs.Ytmlaedpamobmhab
open Go.RowKit
set_option linter.unusedVariables false

theorem c3_of {a b a' b' : Int} (h1 : a < b ↔ a' < b') (h2 : b < a ↔ b' < a') : c3 a b = c3 a' b' := by unfold c3; simp only [h1, h2]
theorem rk_lex {a b : M} (ha : a.ok = true) (hb : b.ok = true) : c3 (rkL a) (rkL b) = M.lex a b := by
  obtain ⟨x1, x2, y1, y2, d1, d2, e1, e2⟩ := M.ok_iff.1 ha
  obtain ⟨x3, x4, y3, y4, d3, d4, e3, e4⟩ := M.ok_iff.1 hb
  by_cases hd : a.d = b.d
  · by_cases he : a.e = b.e
    · by_cases hx : a.x = b.x
      · have h : M.lex a b = c3 a.y b.y := by simp [M.lex, hd, he, hx]
        rw [h]; exact c3_of (by unfold rkL; omega) (by unfold rkL; omega)
      · have h : M.lex a b = c3 a.x b.x := by simp [M.lex, hd, he, hx]
        rw [h]; exact c3_of (by unfold rkL; omega) (by unfold rkL; omega)
    · have h : M.lex a b = c3 a.e b.e := by simp [M.lex, hd, he]
      rw [h]; exact c3_of (by unfold rkL; omega) (by unfold rkL; omega)
  · have h : M.lex a b = c3 a.d b.d := by simp [M.lex, hd]
    rw [h]; exact c3_of (by unfold rkL; omega) (by unfold rkL; omega)
theorem rk_deg {a b : M} (ha : a.ok = true) (hb : b.ok = true) : c3 (rkD a) (rkD b) = M.ord 1 a b := by
  obtain ⟨x1, x2, y1, y2, d1, d2, e1, e2⟩ := M.ok_iff.1 ha
  obtain ⟨x3, x4, y3, y4, d3, d4, e3, e4⟩ := M.ok_iff.1 hb
  have da : a.deg = a.x + a.y + a.d + a.e := by simp [M.deg, ha]
  have db : b.deg = b.x + b.y + b.d + b.e := by simp [M.deg, hb]
  have la : 0 ≤ rkL a ∧ rkL a ≤ 65535 := by simp only [rkL]; omega
  have lb : 0 ≤ rkL b ∧ rkL b ≤ 65535 := by simp only [rkL]; omega
  by_cases h : a.deg = b.deg
  · have e1 : M.ord 1 a b = M.lex a b := by simp [M.ord, h]
    rw [e1, ← rk_lex ha hb]
    rw [da, db] at h
    exact c3_of (by unfold rkD; omega) (by unfold rkD; omega)
  · have e1 : M.ord 1 a b = c3 a.deg b.deg := by simp [M.ord, h]
    rw [e1, da, db]
    rw [da, db] at h
    exact c3_of (by unfold rkD; omega) (by unfold rkD; omega)
theorem rk_out {a b : M} (ha : a.ok = true) (hb : b.ok = true) : c3 (rkO a) (rkO b) = M.ord 3 a b := by
  obtain ⟨x1, x2, y1, y2, d1, d2, e1, e2⟩ := M.ok_iff.1 ha
  obtain ⟨x3, x4, y3, y4, d3, d4, e3, e4⟩ := M.ok_iff.1 hb
  have la : 0 ≤ rkL a ∧ rkL a ≤ 65535 := by simp only [rkL]; omega
  have lb : 0 ≤ rkL b ∧ rkL b ≤ 65535 := by simp only [rkL]; omega
  by_cases h : a.d + a.x = b.d + b.x
  · have e1 : M.ord 3 a b = M.lex a b := by simp [M.ord, h]
    rw [e1, ← rk_lex ha hb]
    exact c3_of (by unfold rkO; omega) (by unfold rkO; omega)
  · have e1 : M.ord 3 a b = c3 (a.d + a.x) (b.d + b.x) := by simp [M.ord, h]
    rw [e1]
    exact c3_of (by unfold rkO; omega) (by unfold rkO; omega)
theorem rk_two {a b : M} (ha : a.ok = true) (hb : b.ok = true) : c3 (rkL a) (rkL b) = M.ord 2 a b := by
  rw [rk_lex ha hb]; simp [M.ord]
set_option maxHeartbeats 400000 in
theorem ordRankI_out (o : Int) (w : World) (h : o < 1 ∨ 3 < o) : Calls Try.prog 41 #[.int .i64 o] w fun r w' => r = .returned (.tuple #[.nilFunc, .bool false]) ∧ Below w.heap.size w w' := by
  rcases h with h | h
  all_goals
    go_enter Try.func41, Try.ntmps41
    go_wp2
    go_ret2
    exact ⟨rfl, bel_one w _⟩
set_option maxHeartbeats 400000 in
theorem ordRankI1 (w : World) : Calls Try.prog 41 #[.int .i64 1] w fun r w' => r = .returned (.tuple #[.func (.func 47) #[] #[], .bool true]) ∧ Below w.heap.size w w' := by
  go_enter Try.func41, Try.ntmps41
  go_wp2
  go_ret2
  exact ⟨rfl, bel_one w _⟩
set_option maxHeartbeats 400000 in
theorem ordRankI2 (w : World) : Calls Try.prog 41 #[.int .i64 2] w fun r w' => r = .returned (.tuple #[.func (.func 63) #[] #[], .bool true]) ∧ Below w.heap.size w w' := by
  go_enter Try.func41, Try.ntmps41
  go_wp2
  go_ret2
  exact ⟨rfl, bel_one w _⟩
set_option maxHeartbeats 400000 in
theorem ordRankI3 (w : World) : Calls Try.prog 41 #[.int .i64 3] w fun r w' => r = .returned (.tuple #[.func (.func 64) #[] #[], .bool true]) ∧ Below w.heap.size w w' := by
  go_enter Try.func41, Try.ntmps41
  go_wp2
  go_ret2
  exact ⟨rfl, bel_one w _⟩
theorem ordRankI_in (o : Int) (w : World) (h1 : 1 ≤ o) (h2 : o ≤ 3) : Calls Try.prog 41 #[.int .i64 o] w fun r w' => ∃ fv, r = .returned (.tuple #[fv, .bool true]) ∧ Below w.heap.size w w' := by
  have ho3 : o = 1 ∨ o = 2 ∨ o = 3 := by omega
  rcases ho3 with rfl | rfl | rfl
  · exact (ordRankI1 w).mono fun _ _ h => ⟨_, h⟩
  · exact (ordRankI2 w).mono fun _ _ h => ⟨_, h⟩
  · exact (ordRankI3 w).mono fun _ _ h => ⟨_, h⟩
set_option maxHeartbeats 2000000 in
theorem monDividesI (x y d e x' y' d' e' : Int) (w : World) :
    Calls Try.prog 52 #[.agg #[.int .i64 x, .int .i64 y, .int .i64 d, .int .i64 e], .agg #[.int .i64 x', .int .i64 y', .int .i64 d', .int .i64 e']] w fun r w' => r = .returned (.bool (M.dvd ⟨x, y, d, e⟩ ⟨x', y', d', e'⟩)) ∧ Below w.heap.size w w' := by
  cases ha : M.ok ⟨x, y, d, e⟩
  · have r1 : M.dvd ⟨x, y, d, e⟩ ⟨x', y', d', e'⟩ = false := by simp [M.dvd, ha]
    rw [r1]
    clear r1
    go_enter Try.func52, Try.ntmps52
    go_wp2_with fail
    refine (monOkI_of ha _).mono ?_
    rintro r w1 ⟨rfl, hb1⟩
    go_wp2
    go_ret
    exact ⟨rfl, bel_next (bel_two w _ _) hb1⟩
  · cases hb : M.ok ⟨x', y', d', e'⟩
    · have r1 : M.dvd ⟨x, y, d, e⟩ ⟨x', y', d', e'⟩ = false := by simp [M.dvd, hb]
      rw [r1]
      clear r1
      go_enter Try.func52, Try.ntmps52
      go_wp2_with fail
      refine (monOkI_of ha _).mono ?_
      rintro r w1 ⟨rfl, hb1⟩
      obtain ⟨hc1, hf1⟩ := bcell hb1
      have hz1 : w.heap.size + 1 < w1.heap.size := by have := hb1.size; simp at this; omega
      have hy1 : w.heap.size < w1.heap.size := by omega
      go_wp2_with fail
      refine (monOkI_of hb _).mono ?_
      rintro r w2 ⟨rfl, hb2⟩
      obtain ⟨hc2, hf2⟩ := bcell hb2
      go_wp2
      go_ret
      exact ⟨rfl, bel_next (bel_next (bel_two w _ _) hb1) hb2⟩
    · skip
      by_cases h0 : x ≤ x'
      · have t0 : decide (x ≤ x') = true := decide_eq_true h0
        by_cases h1 : y ≤ y'
        · have t1 : decide (y ≤ y') = true := decide_eq_true h1
          by_cases h2 : d ≤ d'
          · have t2 : decide (d ≤ d') = true := decide_eq_true h2
            by_cases h3 : e ≤ e'
            · have t3 : decide (e ≤ e') = true := decide_eq_true h3
              have r1 : M.dvd ⟨x, y, d, e⟩ ⟨x', y', d', e'⟩ = true := by simp [M.dvd, ha, hb, h0, h1, h2, h3]
              rw [r1]
              clear r1
              go_enter Try.func52, Try.ntmps52
              go_wp2_with fail
              refine (monOkI_of ha _).mono ?_
              rintro r w1 ⟨rfl, hb1⟩
              obtain ⟨hc1, hf1⟩ := bcell hb1
              have hz1 : w.heap.size + 1 < w1.heap.size := by have := hb1.size; simp at this; omega
              have hy1 : w.heap.size < w1.heap.size := by omega
              go_wp2_with fail
              refine (monOkI_of hb _).mono ?_
              rintro r w2 ⟨rfl, hb2⟩
              obtain ⟨hc2, hf2⟩ := bcell hb2
              go_wp2
              go_ret
              exact ⟨rfl, bel_next (bel_next (bel_two w _ _) hb1) hb2⟩
            · have t3 : decide (e ≤ e') = false := decide_eq_false h3
              have r1 : M.dvd ⟨x, y, d, e⟩ ⟨x', y', d', e'⟩ = false := by simp [M.dvd, h3]
              rw [r1]
              clear r1
              go_enter Try.func52, Try.ntmps52
              go_wp2_with fail
              refine (monOkI_of ha _).mono ?_
              rintro r w1 ⟨rfl, hb1⟩
              obtain ⟨hc1, hf1⟩ := bcell hb1
              have hz1 : w.heap.size + 1 < w1.heap.size := by have := hb1.size; simp at this; omega
              have hy1 : w.heap.size < w1.heap.size := by omega
              go_wp2_with fail
              refine (monOkI_of hb _).mono ?_
              rintro r w2 ⟨rfl, hb2⟩
              obtain ⟨hc2, hf2⟩ := bcell hb2
              go_wp2
              go_ret
              exact ⟨rfl, bel_next (bel_next (bel_two w _ _) hb1) hb2⟩
          · have t2 : decide (d ≤ d') = false := decide_eq_false h2
            have r1 : M.dvd ⟨x, y, d, e⟩ ⟨x', y', d', e'⟩ = false := by simp [M.dvd, h2]
            rw [r1]
            clear r1
            go_enter Try.func52, Try.ntmps52
            go_wp2_with fail
            refine (monOkI_of ha _).mono ?_
            rintro r w1 ⟨rfl, hb1⟩
            obtain ⟨hc1, hf1⟩ := bcell hb1
            have hz1 : w.heap.size + 1 < w1.heap.size := by have := hb1.size; simp at this; omega
            have hy1 : w.heap.size < w1.heap.size := by omega
            go_wp2_with fail
            refine (monOkI_of hb _).mono ?_
            rintro r w2 ⟨rfl, hb2⟩
            obtain ⟨hc2, hf2⟩ := bcell hb2
            go_wp2
            go_ret
            exact ⟨rfl, bel_next (bel_next (bel_two w _ _) hb1) hb2⟩
        · have t1 : decide (y ≤ y') = false := decide_eq_false h1
          have r1 : M.dvd ⟨x, y, d, e⟩ ⟨x', y', d', e'⟩ = false := by simp [M.dvd, h1]
          rw [r1]
          clear r1
          go_enter Try.func52, Try.ntmps52
          go_wp2_with fail
          refine (monOkI_of ha _).mono ?_
          rintro r w1 ⟨rfl, hb1⟩
          obtain ⟨hc1, hf1⟩ := bcell hb1
          have hz1 : w.heap.size + 1 < w1.heap.size := by have := hb1.size; simp at this; omega
          have hy1 : w.heap.size < w1.heap.size := by omega
          go_wp2_with fail
          refine (monOkI_of hb _).mono ?_
          rintro r w2 ⟨rfl, hb2⟩
          obtain ⟨hc2, hf2⟩ := bcell hb2
          go_wp2
          go_ret
          exact ⟨rfl, bel_next (bel_next (bel_two w _ _) hb1) hb2⟩
      · have t0 : decide (x ≤ x') = false := decide_eq_false h0
        have r1 : M.dvd ⟨x, y, d, e⟩ ⟨x', y', d', e'⟩ = false := by simp [M.dvd, h0]
        rw [r1]
        clear r1
        go_enter Try.func52, Try.ntmps52
        go_wp2_with fail
        refine (monOkI_of ha _).mono ?_
        rintro r w1 ⟨rfl, hb1⟩
        obtain ⟨hc1, hf1⟩ := bcell hb1
        have hz1 : w.heap.size + 1 < w1.heap.size := by have := hb1.size; simp at this; omega
        have hy1 : w.heap.size < w1.heap.size := by omega
        go_wp2_with fail
        refine (monOkI_of hb _).mono ?_
        rintro r w2 ⟨rfl, hb2⟩
        obtain ⟨hc2, hf2⟩ := bcell hb2
        go_wp2
        go_ret
        exact ⟨rfl, bel_next (bel_next (bel_two w _ _) hb1) hb2⟩
theorem monDividesI_of {x y d e x' y' d' e' : Int} {b : Bool} (h : M.dvd ⟨x, y, d, e⟩ ⟨x', y', d', e'⟩ = b) (w : World) :
    Calls Try.prog 52 #[.agg #[.int .i64 x, .int .i64 y, .int .i64 d, .int .i64 e], .agg #[.int .i64 x', .int .i64 y', .int .i64 d', .int .i64 e']] w fun r w' => r = .returned (.bool b) ∧ Below w.heap.size w w' := by
  rw [← h]; exact monDividesI _ _ _ _ _ _ _ _ w
end Go.Proofs.Ytmlaedpamobmhab
namespace Go.Proofs.Ytmlaedpamobmhab
open Go.RowKit
set_option linter.unusedVariables false

theorem ord_pos {a b : M} (ha : a.ok = true) (hb : b.ok = true) : 0 < M.ord 1 a b ↔ rkD b < rkD a := by
  rw [← rk_deg ha hb]; unfold c3; constructor
  · intro h; split at h
    · omega
    · split at h <;> omega
  · intro h; rw [if_neg (by omega), if_pos h]; decide
def termOk (c : Int) (m : M) : Bool := decide (1 ≤ c ∧ c ≤ 100) && m.ok
set_option maxHeartbeats 400000 in
theorem polTermOkI (c x y d e : Int) (w : World) :
    Calls Try.prog 46 #[.int .i64 c, .agg #[.int .i64 x, .int .i64 y, .int .i64 d, .int .i64 e]] w fun r w' => r = .returned (.bool (termOk c ⟨x, y, d, e⟩)) ∧ Below w.heap.size w w' := by
  by_cases h0 : c = 0
  · subst h0
    have e1 : termOk 0 ⟨x, y, d, e⟩ = false := by simp [termOk]
    rw [e1]
    go_enter Try.func46, Try.ntmps46
    go_wp2
    go_ret
    exact ⟨rfl, bel_one w _⟩
  · have hz : (c != 0) = true := by simp [h0]
    by_cases hc : 0 ≤ c ∧ c ≤ 100
    · obtain ⟨c1, c2⟩ := hc
      have e1 : termOk c ⟨x, y, d, e⟩ = M.ok ⟨x, y, d, e⟩ := by
        have : 1 ≤ c ∧ c ≤ 100 := by omega
        simp [termOk, this]
      rw [e1]
      clear h0 e1
      go_enter Try.func46, Try.ntmps46
      go_wp2_with (go_at_call 68; refine (okI_in _ _ c1 c2).mono ?_; rintro r w' ⟨rfl, rfl⟩)
      refine (monOkI _ _ _ _ _).mono ?_
      rintro r w1 ⟨rfl, hb⟩
      go_wp2
      go_ret
      exact ⟨rfl, bel_next (bel_one w _) hb⟩
    · have hc' : c < 0 ∨ 100 < c := by omega
      have e1 : termOk c ⟨x, y, d, e⟩ = false := by
        have : ¬ (1 ≤ c ∧ c ≤ 100) := by omega
        simp [termOk, this]
      rw [e1]
      clear hc e1 h0
      go_enter Try.func46, Try.ntmps46
      go_wp2_with (go_at_call 68; refine (okI_out _ _ hc').mono ?_; rintro r w' ⟨rfl, rfl⟩)
      go_ret
      exact ⟨rfl, bel_one w _⟩
theorem polTermOkI_of {c x y d e : Int} {b : Bool} (h : termOk c ⟨x, y, d, e⟩ = b) (w : World) :
    Calls Try.prog 46 #[.int .i64 c, .agg #[.int .i64 x, .int .i64 y, .int .i64 d, .int .i64 e]] w fun r w' => r = .returned (.bool b) ∧ Below w.heap.size w w' := by
  rw [← h]; exact polTermOkI c x y d e w
theorem okAt_term {f : Nat → T} {k : Nat} (h : okAt f k = true) : termOk (f k).c (f k).m = true := by
  simp only [okAt, Bool.and_eq_true] at h
  simp only [termOk, Bool.and_eq_true]
  exact h.1
set_option maxRecDepth 100000 in
set_option maxHeartbeats 4000000 in
theorem polOkI (w : World) (a : Option Addr) (n cap : Nat) (f : Nat → T) (h : Rd w a n cap f) :
    Calls Try.prog 27 #[.slice a n cap] w fun r w' => r = .returned (.bool (polOk n f)) ∧ Below w.heap.size w w' := by
  obtain ⟨h1, h2, h3⟩ := h
  have hn : (n : Int) ≤ 140737488351232 := by omega
  by_cases hl : n ≤ 400
  · have hl' : (n : Int) ≤ 400 := by omega
    go_enter Try.func27, Try.ntmps27
    go_wp2
    go_loopw [10] (fun i wr => ∃ k : Nat, k ≤ n ∧ i = .int .i64 k ∧ Below w.heap.size w wr ∧ ∀ j, j < k → okAt f j = true) (fun i _ => n - (intOf i).toNat)
    case atStart => exact ⟨0, Nat.zero_le _, rfl, Below.refl _ _, fun j hj => absurd hj (Nat.not_lt_zero _)⟩
    case round =>
      obtain ⟨k, hk, rfl, hB, hok⟩ := hrel
      by_cases hlt : k < n
      · rcases h3 with h0 | ⟨b, off, rfl, hblt, hcl⟩
        · omega
        have hkn : (k : Int) < (n : Int) := by omega
        have hbr : b < wr.heap.size := Nat.lt_of_lt_of_le hblt hB.size
        obtain ⟨g0, g1, g2, g3, g4⟩ := (hcl k hlt).below hB hblt
        have hno : okAt f k = false → polOk n f = false := fun hf => by
          simp only [polOk, decide_eq_false_iff_not]
          intro hh
          have := hh.2 k hlt
          rw [hf] at this
          cases this
        cases ht : termOk (f k).c (f k).m
        · have HF : Hid (polOk n f = false) := hno (by
            cases h : okAt f k
            · rfl
            · rw [okAt_term h] at ht; cases ht)
          clear hno hcl hok
          go_wp2_with fail
          refine (polTermOkI_of ht _).mono ?_
          rintro r w1 ⟨rfl, hb⟩
          have HB := Hid.mk' (bel_next (hB.alloc hB.size _) hb)
          clear hb
          go_wp2
          go_ret
          exact ⟨by rw [HF.out]; rfl, HB.out⟩
        · have hm : (f k).m.ok = true := by simp only [termOk, Bool.and_eq_true] at ht; exact ht.2
          have HM := Hid.mk' hm
          have HCL := Hid.mk' hcl
          have HOK := Hid.mk' hok
          have HNO := Hid.mk' hno
          clear hcl hok hno hm
          go_wp2_with fail
          refine (polTermOkI_of ht _).mono ?_
          rintro r w1 ⟨rfl, hb⟩
          have HB := Hid.mk' (bel_next (hB.alloc hB.size _) hb)
          have hb1 : b < w1.heap.size := by have := hb.size; simp at this; omega
          have hb2 : wr.heap.size < w1.heap.size := by have := hb.size; simp at this; omega
          have hq : ∀ i v, #[Value.int .i64 (f k).c, .int .i64 (f k).m.x, .int .i64 (f k).m.y, .int .i64 (f k).m.d, .int .i64 (f k).m.e][i]? = some v → w1.cell? ⟨wr.heap.size, i, none⟩ = some v := fun i v hv => by
            rw [hb.cell (p := ⟨wr.heap.size, i, none⟩) (by simp), World.cell?_alloc_at _ _ _ _ rfl]; exact hv
          have ne := Ext.there w1
          have s1 : ∀ u : Ext w1, u.1.cell? ⟨wr.heap.size, 1, none⟩ = some (.int .i64 (f k).m.x) := fun u => (u.cell hb2).trans (hq 1 _ rfl)
          have s2 : ∀ u : Ext w1, u.1.cell? ⟨wr.heap.size, 2, none⟩ = some (.int .i64 (f k).m.y) := fun u => (u.cell hb2).trans (hq 2 _ rfl)
          have s3 : ∀ u : Ext w1, u.1.cell? ⟨wr.heap.size, 3, none⟩ = some (.int .i64 (f k).m.d) := fun u => (u.cell hb2).trans (hq 3 _ rfl)
          have s4 : ∀ u : Ext w1, u.1.cell? ⟨wr.heap.size, 4, none⟩ = some (.int .i64 (f k).m.e) := fun u => (u.cell hb2).trans (hq 4 _ rfl)
          have HBK := Hid.mk' hB
          clear hq hb g0 g1 g2 g3 g4 hB
          by_cases hk0 : k = 0
          · have ht' : okAt f k = true := by
              simp only [okAt, termOk, Bool.and_eq_true] at ht ⊢
              exact ⟨ht, by simp [hk0]⟩
            have hok' : Hid (∀ j, j < k + 1 → okAt f j = true) := fun j hj => by
              by_cases hjk : j = k
              · rw [hjk]; exact ht'
              · exact HOK.out j (by omega)
            have dk : decide (0 < k) = false := decide_eq_false (by omega)
            clear ht' hk0 ht
            go_wp2_with fail
            refine wp_region_ext (by kernel_rfl) (by kernel_rfl) ?_
            repeat (go_big_quiet_step (fail))
            refine wpQuiet_nil ?_
            rintro _ ⟨u, rfl⟩
            go_wp2
            go_roundw
            case rel => exact ⟨k + 1, by omega, by go_num, HB.out.trans (u.2.mono HB.out.size), hok'.out⟩
            case measure => simp [intOf]; omega
          · have hj : k - 1 < n := by omega
            have hcj := ((HCL.out (k - 1) hj).below HBK.out hblt)
            have hcj1 : Cells w1 b (off + (k - 1) * 5) (f (k - 1)) := (HCL.out (k - 1) hj).below HB.out hblt
            have p1 : ∀ u : Ext w1, u.1.cell? ⟨b, off + (k - 1) * 5 + 1, none⟩ = some (.int .i64 (f (k - 1)).m.x) := fun u => (u.cell hb1).trans hcj1.2.1
            have p2 : ∀ u : Ext w1, u.1.cell? ⟨b, off + (k - 1) * 5 + 2, none⟩ = some (.int .i64 (f (k - 1)).m.y) := fun u => (u.cell hb1).trans hcj1.2.2.1
            have p3 : ∀ u : Ext w1, u.1.cell? ⟨b, off + (k - 1) * 5 + 3, none⟩ = some (.int .i64 (f (k - 1)).m.d) := fun u => (u.cell hb1).trans hcj1.2.2.2.1
            have p4 : ∀ u : Ext w1, u.1.cell? ⟨b, off + (k - 1) * 5 + 4, none⟩ = some (.int .i64 (f (k - 1)).m.e) := fun u => (u.cell hb1).trans hcj1.2.2.2.2
            have hmp : (f (k - 1)).m.ok = true := by
              have := okAt_term (HOK.out (k - 1) (by omega))
              simp only [termOk, Bool.and_eq_true] at this
              exact this.2
            have HMP := Hid.mk' hmp
            clear hcj hcj1
            have dk : decide (0 < k) = true := decide_eq_true (by omega)
            have hk1 : (0 : Int) < (k : Int) := by omega
            have hk2 : (k : Int) - 1 < (n : Int) := by omega
            have hk3 : (0 : Int) ≤ (k : Int) - 1 := by omega
            by_cases hq : rkD (f k).m < rkD (f (k - 1)).m
            · have ht' : okAt f k = true := by
                simp only [okAt, termOk, Bool.and_eq_true] at ht ⊢
                exact ⟨ht, by rw [decide_eq_true ((ord_pos hmp HM.out).2 hq)]; simp⟩
              have hok' : Hid (∀ j, j < k + 1 → okAt f j = true) := fun j hj => by
                by_cases hjk : j = k
                · rw [hjk]; exact ht'
                · exact HOK.out j (by omega)
              have dq : decide (rkD ⟨(f (k - 1)).m.x, (f (k - 1)).m.y, (f (k - 1)).m.d, (f (k - 1)).m.e⟩ ≤ rkD ⟨(f k).m.x, (f k).m.y, (f k).m.d, (f k).m.e⟩) = false := decide_eq_false (Int.not_le.2 hq)
              clear ht' hk0 ht hq hmp
              go_wp2_with fail
              refine wp_region_ext (by kernel_rfl) (by kernel_rfl) ?_
              repeat (go_big_quiet_step (first | (go_at_call 47; exact ext_grows (rankDegI _ _ _ _ _ HMP.out)) | (go_at_call 47; exact ext_grows (rankDegI _ _ _ _ _ HM.out))))
              refine wpQuiet_nil ?_
              rintro _ ⟨u, rfl⟩
              go_wp2
              go_roundw
              case rel => exact ⟨k + 1, by omega, by go_num, HB.out.trans (u.2.mono HB.out.size), hok'.out⟩
              case measure => simp [intOf]; omega
            · have HF : Hid (polOk n f = false) := HNO.out (by
                cases hx : okAt f k
                · rfl
                · exfalso
                  simp only [okAt, Bool.and_eq_true, Bool.or_eq_true, decide_eq_true_eq] at hx
                  rcases hx.2 with h0 | h0
                  · exact hk0 h0
                  · exact hq ((ord_pos hmp HM.out).1 h0))
              have dq : decide (rkD ⟨(f (k - 1)).m.x, (f (k - 1)).m.y, (f (k - 1)).m.d, (f (k - 1)).m.e⟩ ≤ rkD ⟨(f k).m.x, (f k).m.y, (f k).m.d, (f k).m.e⟩) = true := decide_eq_true (Int.not_lt.1 hq)
              clear hk0 ht hq hmp
              go_wp2_with fail
              refine wp_region_ext (by kernel_rfl) (by kernel_rfl) ?_
              repeat (go_big_quiet_step (first | (go_at_call 47; exact ext_grows (rankDegI _ _ _ _ _ HMP.out)) | (go_at_call 47; exact ext_grows (rankDegI _ _ _ _ _ HM.out))))
              refine wpQuiet_nil ?_
              rintro _ ⟨u, rfl⟩
              go_wp2
              go_ret
              exact ⟨by rw [HF.out]; rfl, HB.out.trans (u.2.mono HB.out.size)⟩
      · go_wp2
        go_ret
        have hp : polOk n f = true := by
          simp only [polOk, decide_eq_true_eq]
          exact ⟨hl, fun i hi => hok i (by omega)⟩
        exact ⟨by rw [hp]; rfl, hB⟩
  · have hl' : (400 : Int) < (n : Int) := by omega
    have hp : polOk n f = false := by
      simp only [polOk, decide_eq_false_iff_not]
      exact fun h => hl h.1
    rw [hp]
    go_enter Try.func27, Try.ntmps27
    go_wp2
    go_ret
    exact ⟨rfl, Below.refl _ _⟩
end Go.Proofs.Ytmlaedpamobmhab
namespace Go.Proofs.Ytmlaedpamobmhab
open Go.RowKit
set_option linter.unusedVariables false

def T.cells (t : T) : List Value := [.int .i64 t.c, .int .i64 t.m.x, .int .i64 t.m.y, .int .i64 t.m.d, .int .i64 t.m.e]
def cellsL : List T → List Value
  | [] => []
  | t :: r => t.cells ++ cellsL r
theorem cellsL_append (a b : List T) : cellsL (a ++ b) = cellsL a ++ cellsL b := by
  induction a with
  | nil => rfl
  | cons t r ih => simp [cellsL, ih, List.append_assoc]
theorem cellsL_length (a : List T) : (cellsL a).length = a.length * 5 := by
  induction a with
  | nil => rfl
  | cons t r ih => simp [cellsL, T.cells, ih]; omega
theorem cellsL_one (t : T) : cellsL [t] = [.int .i64 t.c, .int .i64 t.m.x, .int .i64 t.m.y, .int .i64 t.m.d, .int .i64 t.m.e] := by simp [cellsL, T.cells]

/-- the sum of what is left from the i-th and the k-th term on. -/
def mrgI (f : Nat → T) (la : Nat) (g : Nat → T) (lb : Nat) : Nat → Nat → Nat → List T
  | 0, _, _ => []
  | u + 1, i, k =>
    if i < la ∧ k < lb then
      if 0 < M.ord 1 (f i).m (g k).m then f i :: mrgI f la g lb u (i + 1) k
      else if M.ord 1 (f i).m (g k).m < 0 then g k :: mrgI f la g lb u i (k + 1)
      else if ((f i).c + (g k).c) % 101 ≠ 0 then ⟨((f i).c + (g k).c) % 101, (f i).m⟩ :: mrgI f la g lb u (i + 1) (k + 1)
      else mrgI f la g lb u (i + 1) (k + 1)
    else if i < la then f i :: mrgI f la g lb u (i + 1) k
    else if k < lb then g k :: mrgI f la g lb u i (k + 1)
    else []
theorem addI_more (f : Nat → T) (la : Nat) (g : Nat → T) (lb : Nat) : ∀ (u v i k : Nat), la - i + (lb - k) ≤ u → la - i + (lb - k) ≤ v → mrgI f la g lb u i k = mrgI f la g lb v i k
  | 0, 0, _, _, _, _ => rfl
  | 0, v + 1, i, k, h, _ => by simp only [mrgI]; rw [if_neg (by omega), if_neg (by omega), if_neg (by omega)]
  | u + 1, 0, i, k, _, h => by simp only [mrgI]; rw [if_neg (by omega), if_neg (by omega), if_neg (by omega)]
  | u + 1, v + 1, i, k, h, h' => by
    simp only [mrgI]
    by_cases h1 : i < la ∧ k < lb
    · rw [if_pos h1, if_pos h1, addI_more f la g lb u v (i + 1) k (by omega) (by omega), addI_more f la g lb u v i (k + 1) (by omega) (by omega), addI_more f la g lb u v (i + 1) (k + 1) (by omega) (by omega)]
    · rw [if_neg h1, if_neg h1]
      by_cases h2 : i < la
      · rw [if_pos h2, if_pos h2, addI_more f la g lb u v (i + 1) k (by omega) (by omega)]
      · rw [if_neg h2, if_neg h2]
        by_cases h3 : k < lb
        · rw [if_pos h3, if_pos h3, addI_more f la g lb u v i (k + 1) (by omega) (by omega)]
        · rw [if_neg h3, if_neg h3]
def addT (f : Nat → T) (la : Nat) (g : Nat → T) (lb : Nat) (i k : Nat) : List T := mrgI f la g lb (la - i + (lb - k)) i k
theorem addT_gt {f : Nat → T} {la : Nat} {g : Nat → T} {lb i k : Nat} (hi : i < la) (h : ¬ k < lb ∨ 0 < M.ord 1 (f i).m (g k).m) : addT f la g lb i k = f i :: addT f la g lb (i + 1) k := by
  unfold addT
  rw [show la - i + (lb - k) = (la - (i + 1) + (lb - k)) + 1 by omega]
  simp only [mrgI]
  by_cases hk : k < lb
  · rw [if_pos ⟨hi, hk⟩, if_pos (h.resolve_left (fun h => h hk))]
  · rw [if_neg (fun h => hk h.2), if_pos hi]
theorem addT_lt {f : Nat → T} {la : Nat} {g : Nat → T} {lb i k : Nat} (hk : k < lb) (h : ¬ i < la ∨ M.ord 1 (f i).m (g k).m < 0) : addT f la g lb i k = g k :: addT f la g lb i (k + 1) := by
  unfold addT
  rw [show la - i + (lb - k) = (la - i + (lb - (k + 1))) + 1 by omega]
  simp only [mrgI]
  by_cases hi : i < la
  · have h' := h.resolve_left (fun h => h hi)
    rw [if_pos ⟨hi, hk⟩, if_neg (by omega), if_pos h']
  · rw [if_neg (fun h => hi h.1), if_neg hi, if_pos hk]
theorem addT_eq {f : Nat → T} {la : Nat} {g : Nat → T} {lb i k : Nat} (hi : i < la) (hk : k < lb) (h : M.ord 1 (f i).m (g k).m = 0) :
    addT f la g lb i k = (if ((f i).c + (g k).c) % 101 ≠ 0 then [⟨((f i).c + (g k).c) % 101, (f i).m⟩] else []) ++ addT f la g lb (i + 1) (k + 1) := by
  unfold addT
  rw [show la - i + (lb - k) = (la - i + (lb - k) - 1) + 1 by omega]
  simp only [mrgI]
  rw [if_pos ⟨hi, hk⟩, if_neg (by omega), if_neg (by omega), addI_more f la g lb (la - i + (lb - k) - 1) (la - (i + 1) + (lb - (k + 1))) (i + 1) (k + 1) (by omega) (by omega)]
  by_cases hc : ((f i).c + (g k).c) % 101 ≠ 0
  · rw [if_pos hc, if_pos hc]; rfl
  · rw [if_neg hc, if_neg hc]; rfl
theorem addT_end {f : Nat → T} {la : Nat} {g : Nat → T} {lb i k : Nat} (hi : ¬ i < la) (hk : ¬ k < lb) : addT f la g lb i k = [] := by
  unfold addT
  rw [show la - i + (lb - k) = 0 by omega]; rfl
theorem addI_len (f : Nat → T) (la : Nat) (g : Nat → T) (lb : Nat) : ∀ (u i k : Nat), (mrgI f la g lb u i k).length ≤ u
  | 0, _, _ => by simp [mrgI]
  | u + 1, i, k => by
    have a1 := addI_len f la g lb u (i + 1) k
    have a2 := addI_len f la g lb u i (k + 1)
    have a3 := addI_len f la g lb u (i + 1) (k + 1)
    simp only [mrgI]
    repeat' split
    all_goals simp
    all_goals omega
theorem addT_len (f : Nat → T) (la : Nat) (g : Nat → T) (lb i k : Nat) : (addT f la g lb i k).length ≤ la - i + (lb - k) := addI_len _ _ _ _ _ _ _
theorem one_cells (t : T) : ∀ u ∈ cellsL [t], u.oneCell' = true := by
  rw [cellsL_one]
  intro u hu
  simp only [List.mem_cons, List.not_mem_nil, or_false] at hu
  rcases hu with rfl | rfl | rfl | rfl | rfl <;> rfl
theorem grown_of_below {w w' : World} (h : Below w.heap.size w w') : w.grownBy w' none := ⟨h.os, h.tape, h.output, h.size, fun k hk _ => h.block k hk⟩
theorem owns_below {w w' : World} {base : Nat} {e : TypeId} {size : Nat} {v : Value} {n : Nat} {xs : List Value} (h : w.ownsRow base e size v n xs) (hb : Below w.heap.size w w') : w'.ownsRow base e size v n xs := by
  refine h.kept (grown_of_below hb) ?_
  cases hv : v.ownBlock with
  | none => exact .inl rfl
  | some k => exact .inr (by simp)
set_option maxRecDepth 100000 in
set_option maxHeartbeats 8000000 in
theorem l3AddS (w : World) (a b : Option Addr) (la ca lb cb : Nat) (f g : Nat → T) (ha : Rd w a la ca f) (hb : Rd w b lb cb g) (hl : la + lb ≤ 1000000)
    (hcf : ∀ i, i < la → 0 ≤ (f i).c ∧ (f i).c ≤ 100) (hcg : ∀ i, i < lb → 0 ≤ (g i).c ∧ (g i).c ≤ 100) :
    Calls Try.prog 56 #[.slice a la ca, .slice b lb cb] w fun r w' => ∃ v, r = .returned v ∧ Below w.heap.size w w' ∧ w'.ownsRow w.heap.size 33 5 v (addT f la g lb 0 0).length (cellsL (addT f la g lb 0 0)) := by
  obtain ⟨i0, hi0, hz0, hz1, hz2⟩ := info_parts infoT
  obtain ⟨a1, a2, a3⟩ := ha
  obtain ⟨b1, b2, b3⟩ := hb
  have hla : (la : Int) ≤ 1000000 := by omega
  have hlb : (lb : Int) ≤ 1000000 := by omega
  go_enter Try.func56, Try.ntmps56
  go_wp2
  go_loopw [5, 6, 7] (fun v ii kk wr => ∃ (i k : Nat) (out : List T), i ≤ la ∧ k ≤ lb ∧ ii = .int .i64 i ∧ kk = .int .i64 k ∧ Below w.heap.size w wr ∧ wr.ownsRow w.heap.size 33 5 v out.length (cellsL out) ∧ out.length ≤ i + k ∧ Hid (out ++ addT f la g lb i k = addT f la g lb 0 0)) (fun _ ii kk _ => (la - (intOf ii).toNat) + (lb - (intOf kk).toNat))
  case atStart => exact ⟨0, 0, [], Nat.zero_le _, Nat.zero_le _, rfl, rfl, (Below.refl _ _).alloc (Nat.le_refl _) _, World.ownsRow_lit _ _ _ (Nat.le_refl _) (Nat.zero_le _) rfl, Nat.zero_le _, rfl⟩
  case round =>
    obtain ⟨i, k, out, hi, hk, rfl, rfl, hB, hown, hol, HL⟩ := hrel
    by_cases hia : i < la
    · rcases a3 with h0 | ⟨ba, oa, rfl, hal, hac⟩
      · omega
      have hin : (i : Int) < (la : Int) := by omega
      by_cases hkb : k < lb
      · rcases b3 with h0 | ⟨bb, ob, rfl, hbl, hbc⟩
        · omega
        have hkn : (k : Int) < (lb : Int) := by omega
        have hba : ba < wr.heap.size := Nat.lt_of_lt_of_le hal hB.size
        have hbb : bb < wr.heap.size := Nat.lt_of_lt_of_le hbl hB.size
        have ne := Ext.there wr
        have hca := (hac i hia).below hB hal
        have hcb := (hbc k hkb).below hB hbl
        obtain ⟨cf1, cf2⟩ := hcf i hia
        obtain ⟨cg1, cg2⟩ := hcg k hkb
        have ke : ((k : Int) == (lb : Int)) = false := by simp; omega
        have ie : ((i : Int) == (la : Int)) = false := by simp; omega
        have s0 : ∀ u : Ext wr, u.1.cell? ⟨ba, oa + i * 5, none⟩ = some (.int .i64 (f i).c) := fun u => (u.cell hba).trans hca.1
        have s1 : ∀ u : Ext wr, u.1.cell? ⟨ba, oa + i * 5 + 1, none⟩ = some (.int .i64 (f i).m.x) := fun u => (u.cell hba).trans hca.2.1
        have s2 : ∀ u : Ext wr, u.1.cell? ⟨ba, oa + i * 5 + 2, none⟩ = some (.int .i64 (f i).m.y) := fun u => (u.cell hba).trans hca.2.2.1
        have s3 : ∀ u : Ext wr, u.1.cell? ⟨ba, oa + i * 5 + 3, none⟩ = some (.int .i64 (f i).m.d) := fun u => (u.cell hba).trans hca.2.2.2.1
        have s4 : ∀ u : Ext wr, u.1.cell? ⟨ba, oa + i * 5 + 4, none⟩ = some (.int .i64 (f i).m.e) := fun u => (u.cell hba).trans hca.2.2.2.2
        have t0 : ∀ u : Ext wr, u.1.cell? ⟨bb, ob + k * 5, none⟩ = some (.int .i64 (g k).c) := fun u => (u.cell hbb).trans hcb.1
        have t1 : ∀ u : Ext wr, u.1.cell? ⟨bb, ob + k * 5 + 1, none⟩ = some (.int .i64 (g k).m.x) := fun u => (u.cell hbb).trans hcb.2.1
        have t2 : ∀ u : Ext wr, u.1.cell? ⟨bb, ob + k * 5 + 2, none⟩ = some (.int .i64 (g k).m.y) := fun u => (u.cell hbb).trans hcb.2.2.1
        have t3 : ∀ u : Ext wr, u.1.cell? ⟨bb, ob + k * 5 + 3, none⟩ = some (.int .i64 (g k).m.d) := fun u => (u.cell hbb).trans hcb.2.2.2.1
        have t4 : ∀ u : Ext wr, u.1.cell? ⟨bb, ob + k * 5 + 4, none⟩ = some (.int .i64 (g k).m.e) := fun u => (u.cell hbb).trans hcb.2.2.2.2
        have HOW := Hid.mk' hown
        have HCA := Hid.mk' hca
        have HCB := Hid.mk' hcb
        clear hac hbc hcf hcg hown hca hcb
        go_wp2_with fail
        refine wp_region_ext (by kernel_rfl) (by kernel_rfl) ?_
        repeat (go_big_quiet_step (first | (go_at_call 44; exact ext_grows (ordS1 _ _ _ _ _ _ _ _ _))))
        refine wpQuiet_nil ?_
        rintro wu ⟨x, hx⟩
        have hu : Below wr.heap.size wr wu := by rw [hx]; exact x.2
        clear hx x
        have hBu := hB.trans (hu.mono hB.size)
        have hownu := owns_below HOW.out hu
        obtain ⟨x0, x1, x2, x3, x4⟩ := HCA.out.below hu hba
        obtain ⟨y0, y1, y2, y3, y4⟩ := HCB.out.below hu hbb
        clear s0 s1 s2 s3 s4 t0 t1 t2 t3 t4 HOW HCA HCB hB hu
        by_cases hq : 0 < M.ord 1 (f i).m (g k).m
        · have dq : decide (0 < M.ord 1 ⟨(f i).m.x, (f i).m.y, (f i).m.d, (f i).m.e⟩ ⟨(g k).m.x, (g k).m.y, (g k).m.d, (g k).m.e⟩) = true := decide_eq_true hq
          go_wp2_with (at_builtin; refine wpList_append_lies _ rfl (.tmp 85) (.tmp 90) 29 rfl w.heap.size 33 i0 _ 5 40 Try.underlying29 hi0 hz0 hz1 hz2 rfl (by omega) _ out.length (cellsL out) rfl (hownu.alloc _) ⟨wu.heap.size, 0, none⟩ 1 1 (cellsL [f i]) rfl (by rw [cellsL_length]; rfl) (by rw [cellsL_one]; exact World.news_of_block (heap_alloc_new wu _)) (one_cells _) (by omega) (by unfold maxLen; omega) (by omega) (by have := hBu.size; simp; omega) _ rfl ?_; intro g0 cap0 w1 hown1 hgrow hat hlt1; have HB := Hid.mk' ((hBu.alloc hBu.size _).grown hgrow (Nat.le_trans hBu.size (by simp)) (fun k hk => (hownu.lt k hk).1)); have HO := Hid.mk' hown1; clear hown1 hgrow hat hlt1 hownu)
          go_roundw
          case rel =>
            refine ⟨i + 1, k, out ++ [f i], by omega, by omega, by go_num, by go_num, HB.out, ?_, by simp; omega, ?_⟩
            · rw [cellsL_append, List.length_append]; exact HO.out
            · show out ++ [f i] ++ addT f la g lb (i + 1) (k) = _
              rw [← HL.out, addT_gt hia (.inr hq), List.append_assoc]; rfl
          case measure => simp [intOf]; omega
        · have dq : decide (0 < M.ord 1 ⟨(f i).m.x, (f i).m.y, (f i).m.d, (f i).m.e⟩ ⟨(g k).m.x, (g k).m.y, (g k).m.d, (g k).m.e⟩) = false := decide_eq_false hq
          by_cases hr : M.ord 1 (f i).m (g k).m < 0
          · have dr : decide (M.ord 1 ⟨(f i).m.x, (f i).m.y, (f i).m.d, (f i).m.e⟩ ⟨(g k).m.x, (g k).m.y, (g k).m.d, (g k).m.e⟩ < 0) = true := decide_eq_true hr
            go_wp2_with (at_builtin; refine wpList_append_lies _ rfl (.tmp 103) (.tmp 108) 29 rfl w.heap.size 33 i0 _ 5 40 Try.underlying29 hi0 hz0 hz1 hz2 rfl (by omega) _ out.length (cellsL out) rfl (hownu.alloc _) ⟨wu.heap.size, 0, none⟩ 1 1 (cellsL [g k]) rfl (by rw [cellsL_length]; rfl) (by rw [cellsL_one]; exact World.news_of_block (heap_alloc_new wu _)) (one_cells _) (by omega) (by unfold maxLen; omega) (by omega) (by have := hBu.size; simp; omega) _ rfl ?_; intro g0 cap0 w1 hown1 hgrow hat hlt1; have HB := Hid.mk' ((hBu.alloc hBu.size _).grown hgrow (Nat.le_trans hBu.size (by simp)) (fun k hk => (hownu.lt k hk).1)); have HO := Hid.mk' hown1; clear hown1 hgrow hat hlt1 hownu)
            go_roundw
            case rel =>
              refine ⟨i, k + 1, out ++ [g k], by omega, by omega, by go_num, by go_num, HB.out, ?_, by simp; omega, ?_⟩
              · rw [cellsL_append, List.length_append]; exact HO.out
              · show out ++ [g k] ++ addT f la g lb (i) (k + 1) = _
                rw [← HL.out, addT_lt hkb (.inr hr), List.append_assoc]; rfl
            case measure => simp [intOf]; omega
          · have dr : decide (M.ord 1 ⟨(f i).m.x, (f i).m.y, (f i).m.d, (f i).m.e⟩ ⟨(g k).m.x, (g k).m.y, (g k).m.d, (g k).m.e⟩ < 0) = false := decide_eq_false hr
            have h0 : M.ord 1 (f i).m (g k).m = 0 := by omega
            have ne2 := Ext.there wu
            have bau : ba < wu.heap.size := Nat.lt_of_lt_of_le hal hBu.size
            have bbu : bb < wu.heap.size := Nat.lt_of_lt_of_le hbl hBu.size
            have e0 : ∀ u : Ext wu, u.1.cell? ⟨ba, oa + i * 5, none⟩ = some (.int .i64 (f i).c) := fun u => (u.cell bau).trans x0
            have e1 : ∀ u : Ext wu, u.1.cell? ⟨bb, ob + k * 5, none⟩ = some (.int .i64 (g k).c) := fun u => (u.cell bbu).trans y0
            have HX := Hid.mk' (show Cells wu ba (oa + i * 5) (f i) from ⟨x0, x1, x2, x3, x4⟩)
            have HOW := Hid.mk' hownu
            have H0 := Hid.mk' h0
            have h0' : M.ord 1 ⟨(f i).m.x, (f i).m.y, (f i).m.d, (f i).m.e⟩ ⟨(g k).m.x, (g k).m.y, (g k).m.d, (g k).m.e⟩ = 0 := h0
            clear x0 x1 x2 x3 x4 y0 y1 y2 y3 y4 hownu h0 hq hr dq dr
            go_wp2_with fail
            refine wp_region_ext (by kernel_rfl) (by kernel_rfl) ?_
            repeat (go_big_quiet_step (fail))
            refine wpQuiet_nil ?_
            rintro wv ⟨x, hx⟩
            have hv : Below wu.heap.size wu wv := by rw [hx]; exact x.2
            clear hx x
            have hBv := hBu.trans (hv.mono hBu.size)
            have hownv := owns_below HOW.out hv
            obtain ⟨z0, z1, z2, z3, z4⟩ := HX.out.below hv bau
            clear e0 e1 HX HOW hBu hv
            by_cases hc0 : ((f i).c + (g k).c) % 101 = 0
            · have HC := Hid.mk' hc0
              have hcb : (((f i).c + (g k).c) % 101 != 0) = false := by simp [hc0]
              have HO := Hid.mk' hownv
              clear hc0 hownv
              go_wp2
              go_roundw
              case rel =>
                refine ⟨i + 1, k + 1, out, by omega, by omega, by go_num, by go_num, hBv, HO.out, by omega, ?_⟩
                show out ++ addT f la g lb (i + 1) (k + 1) = _
                rw [← HL.out, addT_eq hia hkb H0.out, if_neg (fun h => h HC.out)]; rfl
              case measure => simp [intOf]; omega
            · have HC := Hid.mk' hc0
              have hcb : (((f i).c + (g k).c) % 101 != 0) = true := by simp [hc0]
              clear hc0
              go_wp2_with (at_builtin; refine wpList_append_lies _ rfl (.tmp 56) (.tmp 64) 29 rfl w.heap.size 33 i0 _ 5 40 Try.underlying29 hi0 hz0 hz1 hz2 rfl (by omega) _ out.length (cellsL out) rfl (hownv.alloc _) ⟨wv.heap.size, 0, none⟩ 1 1 (cellsL [⟨((f i).c + (g k).c) % 101, (f i).m⟩]) rfl (by rw [cellsL_length]; rfl) (by rw [cellsL_one]; exact World.news_of_block (heap_alloc_new wv _)) (one_cells _) (by omega) (by unfold maxLen; omega) (by omega) (by have := hBv.size; simp; omega) _ rfl ?_; intro g0 cap0 w1 hown1 hgrow hat hlt1; have HB := Hid.mk' ((hBv.alloc hBv.size _).grown hgrow (Nat.le_trans hBv.size (by simp)) (fun k hk => (hownv.lt k hk).1)); have HO := Hid.mk' hown1; clear hown1 hgrow hat hlt1 hownv)
              go_roundw
              case rel =>
                refine ⟨i + 1, k + 1, out ++ [⟨((f i).c + (g k).c) % 101, (f i).m⟩], by omega, by omega, by go_num, by go_num, HB.out, ?_, by simp; omega, ?_⟩
                · rw [cellsL_append, List.length_append]; exact HO.out
                · show out ++ [⟨((f i).c + (g k).c) % 101, (f i).m⟩] ++ addT f la g lb (i + 1) (k + 1) = _
                  rw [← HL.out, addT_eq hia hkb H0.out, if_pos HC.out, List.append_assoc]
              case measure => simp [intOf]; omega
      · have hkk : k = lb := by omega
        obtain ⟨x0, x1, x2, x3, x4⟩ := (hac i hia).below hB hal
        have ke : ((k : Int) == (lb : Int)) = true := by simp; omega
        have kl : ¬ (k : Int) < (lb : Int) := by omega
        clear hac hcf hcg hkk
        go_wp2_with (at_builtin; refine wpList_append_lies _ rfl (.tmp 85) (.tmp 90) 29 rfl w.heap.size 33 i0 _ 5 40 Try.underlying29 hi0 hz0 hz1 hz2 rfl (by omega) _ out.length (cellsL out) rfl (hown.alloc _) ⟨wr.heap.size, 0, none⟩ 1 1 (cellsL [f i]) rfl (by rw [cellsL_length]; rfl) (by rw [cellsL_one]; exact World.news_of_block (heap_alloc_new wr _)) (one_cells _) (by omega) (by unfold maxLen; omega) (by omega) (by have := hB.size; simp; omega) _ rfl ?_; intro g0 cap0 w1 hown1 hgrow hat hlt1; have HB := Hid.mk' ((hB.alloc hB.size _).grown hgrow (Nat.le_trans hB.size (by simp)) (fun k hk => (hown.lt k hk).1)); have HO := Hid.mk' hown1; clear hown1 hgrow hat hlt1 hown)
        go_roundw
        case rel =>
          refine ⟨i + 1, k, out ++ [f i], by omega, by omega, by go_num, by go_num, HB.out, ?_, by simp; omega, ?_⟩
          · rw [cellsL_append, List.length_append]; exact HO.out
          · show out ++ [f i] ++ addT f la g lb (i + 1) (k) = _
            rw [← HL.out, addT_gt hia (.inl hkb), List.append_assoc]; rfl
        case measure => simp [intOf]; omega
    · have il : ¬ (i : Int) < (la : Int) := by omega
      have ie : ((i : Int) == (la : Int)) = true := by simp; omega
      by_cases hkb : k < lb
      · rcases b3 with h0 | ⟨bb, ob, rfl, hbl, hbc⟩
        · omega
        have hkn : (k : Int) < (lb : Int) := by omega
        have ke : ((k : Int) == (lb : Int)) = false := by simp; omega
        obtain ⟨y0, y1, y2, y3, y4⟩ := (hbc k hkb).below hB hbl
        clear hbc hcf hcg
        go_wp2_with (at_builtin; refine wpList_append_lies _ rfl (.tmp 103) (.tmp 108) 29 rfl w.heap.size 33 i0 _ 5 40 Try.underlying29 hi0 hz0 hz1 hz2 rfl (by omega) _ out.length (cellsL out) rfl (hown.alloc _) ⟨wr.heap.size, 0, none⟩ 1 1 (cellsL [g k]) rfl (by rw [cellsL_length]; rfl) (by rw [cellsL_one]; exact World.news_of_block (heap_alloc_new wr _)) (one_cells _) (by omega) (by unfold maxLen; omega) (by omega) (by have := hB.size; simp; omega) _ rfl ?_; intro g0 cap0 w1 hown1 hgrow hat hlt1; have HB := Hid.mk' ((hB.alloc hB.size _).grown hgrow (Nat.le_trans hB.size (by simp)) (fun k hk => (hown.lt k hk).1)); have HO := Hid.mk' hown1; clear hown1 hgrow hat hlt1 hown)
        go_roundw
        case rel =>
          refine ⟨i, k + 1, out ++ [g k], by omega, by omega, by go_num, by go_num, HB.out, ?_, by simp; omega, ?_⟩
          · rw [cellsL_append, List.length_append]; exact HO.out
          · show out ++ [g k] ++ addT f la g lb (i) (k + 1) = _
            rw [← HL.out, addT_lt hkb (.inl hia), List.append_assoc]; rfl
        case measure => simp [intOf]; omega
      · have kl : ¬ (k : Int) < (lb : Int) := by omega
        have HO := Hid.mk' hown
        clear hown hcf hcg
        go_wp2
        go_ret
        refine ⟨_, rfl, hB, ?_⟩
        rw [← HL.out, addT_end hia hkb, List.append_nil]
        exact HO.out

/-- the i-th term of a list. -/
def lf (L : List T) (i : Nat) : T := L.getD i ⟨0, ⟨0, 0, 0, 0⟩⟩
theorem cellsL_at (L : List T) : ∀ j, j < L.length * 5 → (cellsL L)[j]? = some (cf (lf L) j) := by
  induction L with
  | nil => intro j h; simp at h
  | cons t r ih =>
    intro j h
    have e : cellsL (t :: r) = t.cells ++ cellsL r := rfl
    rw [e]
    by_cases hj : j < 5
    · rw [List.getElem?_append_left (by simp [T.cells]; omega)]
      have h5 : j = 0 ∨ j = 1 ∨ j = 2 ∨ j = 3 ∨ j = 4 := by omega
      rcases h5 with rfl | rfl | rfl | rfl | rfl <;> rfl
    · rw [List.getElem?_append_right (by simp [T.cells]; omega), show T.cells t = [.int .i64 t.c, .int .i64 t.m.x, .int .i64 t.m.y, .int .i64 t.m.d, .int .i64 t.m.e] from rfl]
      simp only [List.length_cons, List.length_nil]
      rw [ih (j - 5) (by simp at h; omega)]
      obtain ⟨q, rfl⟩ : ∃ q, j = q + 5 := ⟨j - 5, by omega⟩
      simp only [Nat.add_sub_cancel]
      unfold cf
      rw [show (q + 5) % 5 = q % 5 by omega, show (q + 5) / 5 = q / 5 + 1 by omega]
      rfl
/-- What a function hands back: terms that can be read and written, in a block that was not there before lo. -/
def Out (lo : Nat) (w : World) (a : Option Addr) (cap : Nat) (L : List T) : Prop :=
  Rd w a L.length cap (lf L) ∧ Wr w a L.length (lf L) ∧ (L.length = 0 ∨ ∃ g off, a = some ⟨g, off, none⟩ ∧ lo ≤ g)
theorem out_of_owns {w : World} {lo : Nat} {v : Value} {L : List T} (h : w.ownsRow lo 33 5 v L.length (cellsL L)) (hl : L.length * 40 ≤ 140737488351232) : ∃ a cap, v = .slice a L.length cap ∧ Out lo w a cap L := by
  rcases h.2 with ⟨hv, h0⟩ | ⟨g, cap, cur, hv, hlo, hg, hn, hm, hs, ht⟩
  · refine ⟨none, 0, by rw [hv, h0], ⟨by omega, hl, .inl h0⟩, .inl h0, .inl h0⟩
  · have hat : ∀ j, j < L.length * 5 → cur[j]? = some (cf (lf L) j) := by
      intro j hj
      rw [← cellsL_at L j hj, ← ht, List.getElem?_take_of_lt hj]
      simp
    have hc5 : L.length * 5 ≤ cap * 5 := by omega
    have hrow : w.rowIs g 33 (cap * 5) (fun j => cur.getD j undef) := ⟨cur, hg, hs, fun j hj => by
      have hjs : j < cur.size := by omega
      show cur[j]? = some (cur.getD j undef)
      rw [Array.getD_eq_getD_getElem?, Array.getElem?_eq_getElem hjs]
      rfl⟩
    have hcell : ∀ j, j < L.length * 5 → w.cell? ⟨g, j, none⟩ = some (cf (lf L) j) := by
      intro j hj
      rw [hrow.cell (by omega), Array.getD_eq_getD_getElem?, hat j hj]; rfl
    refine ⟨some ⟨g, 0, none⟩, cap, hv, ⟨hn, hl, .inr ⟨g, 0, rfl, hrow.lt, fun i hi => ?_⟩⟩, .inr ⟨g, 0, cap * 5, _, rfl, hrow, by omega, fun j hj => ?_⟩, .inr ⟨g, 0, rfl, hlo⟩⟩
    · rw [Nat.zero_add]
      exact ⟨by rw [hcell _ (by omega), cf0], by rw [hcell _ (by omega), cf1], by rw [hcell _ (by omega), cf2], by rw [hcell _ (by omega), cf3], by rw [hcell _ (by omega), cf4]⟩
    · rw [Nat.zero_add, Array.getD_eq_getD_getElem?, hat j hj]; rfl
theorem Wr.below {w w' : World} {a : Option Addr} {n : Nat} {f : Nat → T} (h : Wr w a n f) (hb : Below w.heap.size w w') : Wr w' a n f := by
  rcases h with h0 | ⟨g, off, N, F, rfl, hR, hN, hF⟩
  · exact .inl h0
  · exact .inr ⟨g, off, N, F, rfl, hR.of_block (hb.block g hR.lt), hN, hF⟩
theorem Out.below {lo : Nat} {w w' : World} {a : Option Addr} {cap : Nat} {L : List T} (h : Out lo w a cap L) (hb : Below w.heap.size w w') : Out lo w' a cap L := ⟨h.1.below hb, h.2.1.below hb, h.2.2⟩
theorem Cells.same {w w' : World} {b o : Nat} {t : T} (h : Cells w b o t) (he : w'.heap[b]? = w.heap[b]?) : Cells w' b o t := by
  obtain ⟨h0, h1, h2, h3, h4⟩ := h
  exact ⟨(World.cell?_of_block (w := w) (a := ⟨b, o, none⟩) he).trans h0, (World.cell?_of_block (w := w) (a := ⟨b, o + 1, none⟩) he).trans h1, (World.cell?_of_block (w := w) (a := ⟨b, o + 2, none⟩) he).trans h2, (World.cell?_of_block (w := w) (a := ⟨b, o + 3, none⟩) he).trans h3, (World.cell?_of_block (w := w) (a := ⟨b, o + 4, none⟩) he).trans h4⟩
theorem Rd.grown {w w' : World} {a : Option Addr} {n cap : Nat} {f : Nat → T} {row : Option Nat} (h : Rd w a n cap f) (hg : w.grownBy w' row) (hne : n = 0 ∨ ∀ b off, a = some ⟨b, off, none⟩ → some b ≠ row) : Rd w' a n cap f := by
  obtain ⟨h1, h2, h3⟩ := h
  refine ⟨h1, h2, ?_⟩
  rcases h3 with h0 | ⟨b, off, rfl, hlt, hc⟩
  · exact .inl h0
  · rcases hne with h0 | hne
    · exact .inl h0
    · exact .inr ⟨b, off, rfl, Nat.lt_of_lt_of_le hlt hg.size, fun i hi => (hc i hi).same (hg.block b hlt (hne b off rfl))⟩
theorem owns_lower {w : World} {base base' : Nat} {e : TypeId} {size : Nat} {v : Value} {n : Nat} {xs : List Value} (h : w.ownsRow base e size v n xs) (hb : base' ≤ base) : w.ownsRow base' e size v n xs := by
  refine ⟨h.1, ?_⟩
  rcases h.2 with h0 | ⟨g, cap, cur, hv, hlo, hr⟩
  · exact .inl h0
  · exact .inr ⟨g, cap, cur, hv, Nat.le_trans hb hlo, hr⟩
theorem polOk_c {n : Nat} {f : Nat → T} (h : polOk n f = true) : n ≤ 400 ∧ ∀ i, i < n → 0 ≤ (f i).c ∧ (f i).c ≤ 100 := by
  simp only [polOk, decide_eq_true_eq] at h
  refine ⟨h.1, fun i hi => ?_⟩
  have := h.2 i hi
  simp only [okAt, Bool.and_eq_true, decide_eq_true_eq] at this
  omega
/-- PolAdd: the terms, and whether it is one. -/
def polAdd (f : Nat → T) (la : Nat) (g : Nat → T) (lb : Nat) : List T × Bool :=
  if polOk la f = true ∧ polOk lb g = true ∧ (addT f la g lb 0 0).length ≤ 400 then (addT f la g lb 0 0, true) else ([], false)
theorem owns_none (w : World) (lo : Nat) (h : lo ≤ w.heap.size) : (w.alloc (.cells #[] 33)).ownsRow lo 33 5 (.slice (some ⟨w.heap.size, 0, none⟩) 0 0) 0 (cellsL []) := World.ownsRow_lit _ _ _ h (Nat.zero_le _) rfl
end Go.Proofs.Ytmlaedpamobmhab
