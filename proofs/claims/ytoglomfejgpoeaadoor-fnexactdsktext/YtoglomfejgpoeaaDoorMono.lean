/-
  What the functions of chapter 2's model return: monomials as four numbers.
-/
import Derived.Test.YtoglomfejgpoeaaDoorRows
import Derived.WalkKit
import Derived.Test.YtoglomfejgpoeaaDoorMath
import Derived.Test.YtoglomfejgpoeaaDoorWalks
import Derived.Deep.RegionHeld3
import Derived.Deep.Light
namespace Go.Proofs.YtoglomfejgpoeaaDoor
open Go.RowKit
set_option linter.unusedVariables false

/-- a monomial: how often each factor stands in it. -/
structure M where
  x : Int
  y : Int
  d : Int
  e : Int
def M.ok (m : M) : Bool := decide (0 ≤ m.x ∧ m.x ≤ 15 ∧ 0 ≤ m.y ∧ m.y ≤ 15 ∧ 0 ≤ m.d ∧ m.d ≤ 15 ∧ 0 ≤ m.e ∧ m.e ≤ 15)
theorem M.ok_iff {m : M} : m.ok = true ↔ 0 ≤ m.x ∧ m.x ≤ 15 ∧ 0 ≤ m.y ∧ m.y ≤ 15 ∧ 0 ≤ m.d ∧ m.d ≤ 15 ∧ 0 ≤ m.e ∧ m.e ≤ 15 := by simp [M.ok]
theorem M.ok_not {m : M} : m.ok = false ↔ ¬ (0 ≤ m.x ∧ m.x ≤ 15 ∧ 0 ≤ m.y ∧ m.y ≤ 15 ∧ 0 ≤ m.d ∧ m.d ≤ 15 ∧ 0 ≤ m.e ∧ m.e ≤ 15) := by
  rw [← M.ok_iff]; simp
def M.deg (m : M) : Int := if m.ok then m.x + m.y + m.d + m.e else 0
/-- less, the same, more. -/
def c3 (a b : Int) : Int := if a < b then -1 else if b < a then 1 else 0
def M.lex (a b : M) : Int := if a.d ≠ b.d then c3 a.d b.d else if a.e ≠ b.e then c3 a.e b.e else if a.x ≠ b.x then c3 a.x b.x else c3 a.y b.y
def M.ord (o : Int) (a b : M) : Int :=
  if o = 1 ∧ a.deg ≠ b.deg then c3 a.deg b.deg else if o = 3 ∧ a.d + a.x ≠ b.d + b.x then c3 (a.d + a.x) (b.d + b.x) else M.lex a b
def M.cmp (o : Int) (a b : M) : Int := if (1 ≤ o ∧ o ≤ 3) ∧ a.ok = true ∧ b.ok = true then M.ord o a b else 0
def M.zero : M := ⟨0, 0, 0, 0⟩
def M.sum (a b : M) : M := ⟨a.x + b.x, a.y + b.y, a.d + b.d, a.e + b.e⟩
def M.mul (a b : M) : M × Bool := if a.ok = true ∧ b.ok = true ∧ (a.sum b).ok = true then (a.sum b, true) else (M.zero, false)
def M.dvd (a b : M) : Bool := a.ok && b.ok && decide (a.x ≤ b.x ∧ a.y ≤ b.y ∧ a.d ≤ b.d ∧ a.e ≤ b.e)
def M.diff (b a : M) : M := ⟨b.x - a.x, b.y - a.y, b.d - a.d, b.e - a.e⟩
def M.over (b a : M) : M × Bool := if a.dvd b = true then (b.diff a, true) else (M.zero, false)
def mx (a b : Int) : Int := if b < a then a else b
def M.both (a b : M) : M := if a.ok = true ∧ b.ok = true then ⟨mx a.x b.x, mx a.y b.y, mx a.d b.d, mx a.e b.e⟩ else M.zero
theorem Hid.mk' {p : Prop} (h : p) : Hid p := h
theorem bcell {W w1 : World} (hb : Below W.heap.size W w1) : (∀ b o, b < W.heap.size → w1.cell? ⟨b, o, none⟩ = W.cell? ⟨b, o, none⟩) ∧ (∀ b o, b < W.heap.size → w1.frozen? ⟨b, o, none⟩ = W.frozen? ⟨b, o, none⟩) :=
  ⟨fun b o h => hb.cell (p := ⟨b, o, none⟩) h, fun b o h => hb.frozen (p := ⟨b, o, none⟩) h⟩

set_option maxHeartbeats 400000 in
theorem monOkS (x y d e : Int) (w : World) :
    Calls Tryd.prog 22 #[.agg #[.int .i64 x, .int .i64 y, .int .i64 d, .int .i64 e]] w fun r w' => r = .returned (.bool (M.ok ⟨x, y, d, e⟩)) ∧ Below w.heap.size w w' := by
  by_cases hx : 0 ≤ x ∧ x ≤ 15
  · by_cases hy : 0 ≤ y ∧ y ≤ 15
    · by_cases hd : 0 ≤ d ∧ d ≤ 15
      · by_cases he : 0 ≤ e ∧ e ≤ 15
        · rw [M.ok_iff.2 ⟨hx.1, hx.2, hy.1, hy.2, hd.1, hd.2, he.1, he.2⟩]
          obtain ⟨x1, x2⟩ := hx
          obtain ⟨y1, y2⟩ := hy
          obtain ⟨d1, d2⟩ := hd
          obtain ⟨e1, e2⟩ := he
          go_enter Tryd.func22, Tryd.ntmps22
          go_wp2_with (first | (go_at_call 10; first | (refine (inS_in _ _ _ _ (by omega) (by omega)).mono ?_; rintro e w' ⟨rfl, rfl⟩) | (refine (inS_out _ _ _ _ (by omega)).mono ?_; rintro e w' ⟨rfl, rfl⟩)))
          go_ret
          exact ⟨rfl, (Below.refl _ _).alloc (Nat.le_refl _) _⟩
        · rw [M.ok_not.2 (fun h => he ⟨h.2.2.2.2.2.2.1, h.2.2.2.2.2.2.2⟩)]
          go_enter Tryd.func22, Tryd.ntmps22
          go_wp2_with (first | (go_at_call 10; first | (refine (inS_in _ _ _ _ (by omega) (by omega)).mono ?_; rintro e w' ⟨rfl, rfl⟩) | (refine (inS_out _ _ _ _ (by omega)).mono ?_; rintro e w' ⟨rfl, rfl⟩)))
          go_ret
          exact ⟨rfl, (Below.refl _ _).alloc (Nat.le_refl _) _⟩
      · rw [M.ok_not.2 (fun h => hd ⟨h.2.2.2.2.1, h.2.2.2.2.2.1⟩)]
        go_enter Tryd.func22, Tryd.ntmps22
        go_wp2_with (first | (go_at_call 10; first | (refine (inS_in _ _ _ _ (by omega) (by omega)).mono ?_; rintro e w' ⟨rfl, rfl⟩) | (refine (inS_out _ _ _ _ (by omega)).mono ?_; rintro e w' ⟨rfl, rfl⟩)))
        go_ret
        exact ⟨rfl, (Below.refl _ _).alloc (Nat.le_refl _) _⟩
    · rw [M.ok_not.2 (fun h => hy ⟨h.2.2.1, h.2.2.2.1⟩)]
      go_enter Tryd.func22, Tryd.ntmps22
      go_wp2_with (first | (go_at_call 10; first | (refine (inS_in _ _ _ _ (by omega) (by omega)).mono ?_; rintro e w' ⟨rfl, rfl⟩) | (refine (inS_out _ _ _ _ (by omega)).mono ?_; rintro e w' ⟨rfl, rfl⟩)))
      go_ret
      exact ⟨rfl, (Below.refl _ _).alloc (Nat.le_refl _) _⟩
  · rw [M.ok_not.2 (fun h => hx ⟨h.1, h.2.1⟩)]
    go_enter Tryd.func22, Tryd.ntmps22
    go_wp2_with (first | (go_at_call 10; first | (refine (inS_in _ _ _ _ (by omega) (by omega)).mono ?_; rintro e w' ⟨rfl, rfl⟩) | (refine (inS_out _ _ _ _ (by omega)).mono ?_; rintro e w' ⟨rfl, rfl⟩)))
    go_ret
    exact ⟨rfl, (Below.refl _ _).alloc (Nat.le_refl _) _⟩
theorem monOkS_of {x y d e : Int} {b : Bool} (h : M.ok ⟨x, y, d, e⟩ = b) (w : World) :
    Calls Tryd.prog 22 #[.agg #[.int .i64 x, .int .i64 y, .int .i64 d, .int .i64 e]] w fun r w' => r = .returned (.bool b) ∧ Below w.heap.size w w' := by
  rw [← h]; exact monOkS x y d e w
theorem monDegS (x y d e : Int) (w : World) :
    Calls Tryd.prog 33 #[.agg #[.int .i64 x, .int .i64 y, .int .i64 d, .int .i64 e]] w fun r w' => r = .returned (.int .i64 (M.deg ⟨x, y, d, e⟩)) ∧ Below w.heap.size w w' := by
  cases h : M.ok ⟨x, y, d, e⟩
  · have hd : M.deg ⟨x, y, d, e⟩ = 0 := by simp [M.deg, h]
    rw [hd]
    go_enter Tryd.func33, Tryd.ntmps33
    go_wp2_with fail
    refine (monOkS _ _ _ _ _).mono ?_
    rw [h]
    rintro r w1 ⟨rfl, hb⟩
    go_wp2
    go_ret
    exact ⟨rfl, (Below.refl _ _).trans (((Below.refl _ _).alloc (Nat.le_refl _) _).trans (hb.mono (by simp)))⟩
  · have hd : M.deg ⟨x, y, d, e⟩ = x + y + d + e := by simp [M.deg, h]
    rw [hd]
    obtain ⟨x1, x2, y1, y2, d1, d2, e1, e2⟩ := M.ok_iff.1 h
    simp only at x1 x2 y1 y2 d1 d2 e1 e2
    go_enter Tryd.func33, Tryd.ntmps33
    go_wp2_with fail
    refine (monOkS _ _ _ _ _).mono ?_
    rw [h]
    rintro r w1 ⟨rfl, hb⟩
    obtain ⟨hc, hf⟩ := bcell hb
    go_wp2
    go_ret
    exact ⟨rfl, ((Below.refl _ _).alloc (Nat.le_refl _) _).trans (hb.mono (by simp))⟩
theorem cmpS (a b : Int) (w : World) :
    Calls Tryd.prog 34 #[.int .i64 a, .int .i64 b] w fun r w' => r = .returned (.int .i64 (c3 a b)) ∧ w' = w := by
  by_cases h1 : a < b
  · have e1 : c3 a b = -1 := by simp [c3, h1]
    rw [e1]
    go_enter Tryd.func34, Tryd.ntmps34
    go_wp2
    go_ret
    exact ⟨rfl, rfl⟩
  · by_cases h2 : b < a
    · have e1 : c3 a b = 1 := by simp [c3, h1, h2]
      rw [e1]
      go_enter Tryd.func34, Tryd.ntmps34
      go_wp2
      go_ret
      exact ⟨rfl, rfl⟩
    · have e1 : c3 a b = 0 := by simp [c3, h1, h2]
      rw [e1]
      go_enter Tryd.func34, Tryd.ntmps34
      go_wp2
      go_ret
      exact ⟨rfl, rfl⟩
set_option maxHeartbeats 400000 in
theorem lexS (x y d e x' y' d' e' : Int) (w : World) :
    Calls Tryd.prog 35 #[.agg #[.int .i64 x, .int .i64 y, .int .i64 d, .int .i64 e], .agg #[.int .i64 x', .int .i64 y', .int .i64 d', .int .i64 e']] w fun r w' => r = .returned (.int .i64 (M.lex ⟨x, y, d, e⟩ ⟨x', y', d', e'⟩)) ∧ Below w.heap.size w w' := by
  by_cases hd : d = d'
  · by_cases he : e = e'
    · by_cases hx : x = x'
      · have e1 : M.lex ⟨x, y, d, e⟩ ⟨x', y', d', e'⟩ = c3 y y' := by simp [M.lex, hd, he, hx]
        rw [e1]
        have b1 : (d != d') = false := by simp [hd]
        have b2 : (e != e') = false := by simp [he]
        have b3 : (x != x') = false := by simp [hx]
        clear hd he hx e1
        go_enter Tryd.func35, Tryd.ntmps35
        go_wp2_with (first | (go_at_call 34; refine (cmpS _ _ _).mono ?_; rintro r w' ⟨rfl, rfl⟩))
        go_ret
        exact ⟨rfl, ((Below.refl _ _).alloc (Nat.le_refl _) _).alloc (by simp) _⟩
      · have e1 : M.lex ⟨x, y, d, e⟩ ⟨x', y', d', e'⟩ = c3 x x' := by simp [M.lex, hd, he, hx]
        rw [e1]
        have b1 : (d != d') = false := by simp [hd]
        have b2 : (e != e') = false := by simp [he]
        have b3 : (x != x') = true := by simp [hx]
        clear hd he hx e1
        go_enter Tryd.func35, Tryd.ntmps35
        go_wp2_with (first | (go_at_call 34; refine (cmpS _ _ _).mono ?_; rintro r w' ⟨rfl, rfl⟩))
        go_ret
        exact ⟨rfl, ((Below.refl _ _).alloc (Nat.le_refl _) _).alloc (by simp) _⟩
    · have e1 : M.lex ⟨x, y, d, e⟩ ⟨x', y', d', e'⟩ = c3 e e' := by simp [M.lex, hd, he]
      rw [e1]
      have b1 : (d != d') = false := by simp [hd]
      have b2 : (e != e') = true := by simp [he]
      clear hd he e1
      go_enter Tryd.func35, Tryd.ntmps35
      go_wp2_with (first | (go_at_call 34; refine (cmpS _ _ _).mono ?_; rintro r w' ⟨rfl, rfl⟩))
      go_ret
      exact ⟨rfl, ((Below.refl _ _).alloc (Nat.le_refl _) _).alloc (by simp) _⟩
  · have e1 : M.lex ⟨x, y, d, e⟩ ⟨x', y', d', e'⟩ = c3 d d' := by simp [M.lex, hd]
    rw [e1]
    have b1 : (d != d') = true := by simp [hd]
    clear hd e1
    go_enter Tryd.func35, Tryd.ntmps35
    go_wp2_with (first | (go_at_call 34; refine (cmpS _ _ _).mono ?_; rintro r w' ⟨rfl, rfl⟩))
    go_ret
    exact ⟨rfl, ((Below.refl _ _).alloc (Nat.le_refl _) _).alloc (by simp) _⟩
theorem bel_next {w W W' : World} (a : Below w.heap.size w W) (h : Below W.heap.size W W') : Below w.heap.size w W' := a.trans (h.mono a.size)
theorem bel_two (w : World) (A B : Obj) : Below w.heap.size w ((w.alloc A).alloc B) := ((Below.refl _ _).alloc (Nat.le_refl _) _).alloc (by simp) _
theorem bel_three (w : World) (A B C : Obj) : Below w.heap.size w (((w.alloc A).alloc B).alloc C) := (bel_two w A B).alloc (bel_two w A B).size _
theorem bel_set4 {n B : Nat} {a w : World} (h : Below n a w) (hB : n ≤ B) (u0 u1 u2 u3 : Value) : Below n a ((((w.setCell ⟨B, 0, none⟩ u0).setCell ⟨B, 1, none⟩ u1).setCell ⟨B, 2, none⟩ u2).setCell ⟨B, 3, none⟩ u3) :=
  (((h.setCell hB u0).setCell hB u1).setCell hB u2).setCell hB u3
set_option maxHeartbeats 1000000 in
theorem ordS1 (x y d e x' y' d' e' : Int) (w : World) :
    Calls Tryd.prog 23 #[.int .i64 1, .agg #[.int .i64 x, .int .i64 y, .int .i64 d, .int .i64 e], .agg #[.int .i64 x', .int .i64 y', .int .i64 d', .int .i64 e']] w fun r w' => r = .returned (.int .i64 (M.ord 1 ⟨x, y, d, e⟩ ⟨x', y', d', e'⟩)) ∧ Below w.heap.size w w' := by
  by_cases hd : M.deg ⟨x, y, d, e⟩ = M.deg ⟨x', y', d', e'⟩
  · have e1 : M.ord 1 ⟨x, y, d, e⟩ ⟨x', y', d', e'⟩ = M.lex ⟨x, y, d, e⟩ ⟨x', y', d', e'⟩ := by simp [M.ord, hd]
    rw [e1]
    have b1 : (M.deg ⟨x, y, d, e⟩ != M.deg ⟨x', y', d', e'⟩) = false := by simp [hd]
    clear hd e1
    go_enter Tryd.func23, Tryd.ntmps23
    go_wp2_with fail
    go_region_held3 (fun u => u.cell? ⟨w.heap.size, 0, none⟩ = some (.int .i64 x) ∧ u.cell? ⟨w.heap.size, 1, none⟩ = some (.int .i64 y) ∧ u.cell? ⟨w.heap.size, 2, none⟩ = some (.int .i64 d) ∧ u.cell? ⟨w.heap.size, 3, none⟩ = some (.int .i64 e) ∧ u.cell? ⟨w.heap.size + 1, 0, none⟩ = some (.int .i64 x') ∧ u.cell? ⟨w.heap.size + 1, 1, none⟩ = some (.int .i64 y') ∧ u.cell? ⟨w.heap.size + 1, 2, none⟩ = some (.int .i64 d') ∧ u.cell? ⟨w.heap.size + 1, 3, none⟩ = some (.int .i64 e')) ((go_light; first | (refine ⟨?_, ?_, ?_, ?_, ?_, ?_, ?_, ?_⟩ <;> (simp only [(bcell hb4).1 _ _ hz3, (bcell hb4).1 _ _ hy3, *]; done)) | (refine ⟨?_, ?_, ?_, ?_, ?_, ?_, ?_, ?_⟩ <;> (simp only [(bcell hb3).1 _ _ hz2, (bcell hb3).1 _ _ hy2, *]; done)) | (refine ⟨?_, ?_, ?_, ?_, ?_, ?_, ?_, ?_⟩ <;> (simp only [(bcell hb2).1 _ _ hz1, (bcell hb2).1 _ _ hy1, *]; done)) | (have hc := (bcell hb1).1; refine ⟨?_, ?_, ?_, ?_, ?_, ?_, ?_, ?_⟩ <;> go_simp <;> done) | (refine ⟨?_, ?_, ?_, ?_, ?_, ?_, ?_, ?_⟩ <;> go_simp <;> done))) (first | (go_at_call_of 33 (Value.int IntKind.i64 x); refine (monDegS x y d e _).mono ?_; rintro r w1 ⟨rfl, hb1⟩; have hz1 : w.heap.size < w1.heap.size := (by have := hb1.size; first | omega | (simp at this; omega)); have hy1 : w.heap.size + 1 < w1.heap.size := (by have := hb1.size; first | omega | (simp at this; omega))) | (go_at_call_of 33 (Value.int IntKind.i64 x'); refine (monDegS x' y' d' e' _).mono ?_; rintro r w2 ⟨rfl, hb2⟩; have hz2 : w.heap.size < w2.heap.size := (by have := hb2.size; first | omega | (simp at this; omega)); have hy2 : w.heap.size + 1 < w2.heap.size := (by have := hb2.size; first | omega | (simp at this; omega))))
    go_wp2_with (first | (go_at_call 35; refine (lexS x y d e x' y' d' e' _).mono ?_; rintro r w5 ⟨rfl, hb5⟩))
    go_ret
    exact ⟨rfl, bel_next (bel_next (bel_next (bel_two w _ _).drew hb1) hb2) hb5⟩
  · have e1 : M.ord 1 ⟨x, y, d, e⟩ ⟨x', y', d', e'⟩ = c3 (M.deg ⟨x, y, d, e⟩) (M.deg ⟨x', y', d', e'⟩) := by simp [M.ord, hd]
    rw [e1]
    have b1 : (M.deg ⟨x, y, d, e⟩ != M.deg ⟨x', y', d', e'⟩) = true := by simp [hd]
    clear hd e1
    go_enter Tryd.func23, Tryd.ntmps23
    go_wp2_with fail
    go_region_held3 (fun u => u.cell? ⟨w.heap.size, 0, none⟩ = some (.int .i64 x) ∧ u.cell? ⟨w.heap.size, 1, none⟩ = some (.int .i64 y) ∧ u.cell? ⟨w.heap.size, 2, none⟩ = some (.int .i64 d) ∧ u.cell? ⟨w.heap.size, 3, none⟩ = some (.int .i64 e) ∧ u.cell? ⟨w.heap.size + 1, 0, none⟩ = some (.int .i64 x') ∧ u.cell? ⟨w.heap.size + 1, 1, none⟩ = some (.int .i64 y') ∧ u.cell? ⟨w.heap.size + 1, 2, none⟩ = some (.int .i64 d') ∧ u.cell? ⟨w.heap.size + 1, 3, none⟩ = some (.int .i64 e')) ((go_light; first | (refine ⟨?_, ?_, ?_, ?_, ?_, ?_, ?_, ?_⟩ <;> (simp only [(bcell hb4).1 _ _ hz3, (bcell hb4).1 _ _ hy3, *]; done)) | (refine ⟨?_, ?_, ?_, ?_, ?_, ?_, ?_, ?_⟩ <;> (simp only [(bcell hb3).1 _ _ hz2, (bcell hb3).1 _ _ hy2, *]; done)) | (refine ⟨?_, ?_, ?_, ?_, ?_, ?_, ?_, ?_⟩ <;> (simp only [(bcell hb2).1 _ _ hz1, (bcell hb2).1 _ _ hy1, *]; done)) | (have hc := (bcell hb1).1; refine ⟨?_, ?_, ?_, ?_, ?_, ?_, ?_, ?_⟩ <;> go_simp <;> done) | (refine ⟨?_, ?_, ?_, ?_, ?_, ?_, ?_, ?_⟩ <;> go_simp <;> done))) (first | (go_at_call_of 33 (Value.int IntKind.i64 x); refine (monDegS x y d e _).mono ?_; rintro r w1 ⟨rfl, hb1⟩; have hz1 : w.heap.size < w1.heap.size := (by have := hb1.size; first | omega | (simp at this; omega)); have hy1 : w.heap.size + 1 < w1.heap.size := (by have := hb1.size; first | omega | (simp at this; omega))) | (go_at_call_of 33 (Value.int IntKind.i64 x'); refine (monDegS x' y' d' e' _).mono ?_; rintro r w2 ⟨rfl, hb2⟩; have hz2 : w.heap.size < w2.heap.size := (by have := hb2.size; first | omega | (simp at this; omega)); have hy2 : w.heap.size + 1 < w2.heap.size := (by have := hb2.size; first | omega | (simp at this; omega))))
    go_wp2_with fail
    go_region_held3 (fun u => u.cell? ⟨w.heap.size, 0, none⟩ = some (.int .i64 x) ∧ u.cell? ⟨w.heap.size, 1, none⟩ = some (.int .i64 y) ∧ u.cell? ⟨w.heap.size, 2, none⟩ = some (.int .i64 d) ∧ u.cell? ⟨w.heap.size, 3, none⟩ = some (.int .i64 e) ∧ u.cell? ⟨w.heap.size + 1, 0, none⟩ = some (.int .i64 x') ∧ u.cell? ⟨w.heap.size + 1, 1, none⟩ = some (.int .i64 y') ∧ u.cell? ⟨w.heap.size + 1, 2, none⟩ = some (.int .i64 d') ∧ u.cell? ⟨w.heap.size + 1, 3, none⟩ = some (.int .i64 e')) ((go_light; first | (refine ⟨?_, ?_, ?_, ?_, ?_, ?_, ?_, ?_⟩ <;> (simp only [(bcell hb4).1 _ _ hz3, (bcell hb4).1 _ _ hy3, *]; done)) | (refine ⟨?_, ?_, ?_, ?_, ?_, ?_, ?_, ?_⟩ <;> (simp only [(bcell hb3).1 _ _ hz2, (bcell hb3).1 _ _ hy2, *]; done)) | (refine ⟨?_, ?_, ?_, ?_, ?_, ?_, ?_, ?_⟩ <;> (simp only [(bcell hb2).1 _ _ hz1, (bcell hb2).1 _ _ hy1, *]; done)) | (have hc := (bcell hb1).1; refine ⟨?_, ?_, ?_, ?_, ?_, ?_, ?_, ?_⟩ <;> go_simp <;> done) | (refine ⟨?_, ?_, ?_, ?_, ?_, ?_, ?_, ?_⟩ <;> go_simp <;> done))) (first | (go_at_call_of 33 (Value.int IntKind.i64 x); refine (monDegS x y d e _).mono ?_; rintro r w3 ⟨rfl, hb3⟩; have hz3 : w.heap.size < w3.heap.size := (by have := hb3.size; first | omega | (simp at this; omega)); have hy3 : w.heap.size + 1 < w3.heap.size := (by have := hb3.size; first | omega | (simp at this; omega))) | (go_at_call_of 33 (Value.int IntKind.i64 x'); refine (monDegS x' y' d' e' _).mono ?_; rintro r w4 ⟨rfl, hb4⟩; have hz4 : w.heap.size < w4.heap.size := (by have := hb4.size; first | omega | (simp at this; omega)); have hy4 : w.heap.size + 1 < w4.heap.size := (by have := hb4.size; first | omega | (simp at this; omega))) | (go_at_call 34; refine (cmpS _ _ _).mono ?_; rintro r w' ⟨rfl, rfl⟩))
    go_wp2
    go_ret
    exact ⟨rfl, bel_next (bel_next (bel_next (bel_next (bel_two w _ _).drew hb1) hb2).drew hb3) hb4⟩
set_option maxHeartbeats 1000000 in
theorem ordS2 (o : Int) (x y d e x' y' d' e' : Int) (w : World) (h1 : o ≠ 1) (h3 : o ≠ 3) :
    Calls Tryd.prog 23 #[.int .i64 o, .agg #[.int .i64 x, .int .i64 y, .int .i64 d, .int .i64 e], .agg #[.int .i64 x', .int .i64 y', .int .i64 d', .int .i64 e']] w fun r w' => r = .returned (.int .i64 (M.ord o ⟨x, y, d, e⟩ ⟨x', y', d', e'⟩)) ∧ Below w.heap.size w w' := by
  have e1 : M.ord o ⟨x, y, d, e⟩ ⟨x', y', d', e'⟩ = M.lex ⟨x, y, d, e⟩ ⟨x', y', d', e'⟩ := by simp [M.ord, h1, h3]
  rw [e1]
  have b1 : (o == 1) = false := by simp [h1]
  have b3 : (o == 3) = false := by simp [h3]
  clear e1 h1 h3
  go_enter Tryd.func23, Tryd.ntmps23
  go_wp2_with fail
  go_region
  all_goals
    go_wp2_with (first | (go_at_call 35; refine (lexS x y d e x' y' d' e' _).mono ?_; rintro r w5 ⟨rfl, hb5⟩))
    go_ret
    exact ⟨rfl, bel_next (bel_two w _ _).drew hb5⟩
set_option maxHeartbeats 1000000 in
theorem ordS3 (x y d e x' y' d' e' : Int) (w : World) (ha : M.ok ⟨x, y, d, e⟩ = true) (hb : M.ok ⟨x', y', d', e'⟩ = true) :
    Calls Tryd.prog 23 #[.int .i64 3, .agg #[.int .i64 x, .int .i64 y, .int .i64 d, .int .i64 e], .agg #[.int .i64 x', .int .i64 y', .int .i64 d', .int .i64 e']] w fun r w' => r = .returned (.int .i64 (M.ord 3 ⟨x, y, d, e⟩ ⟨x', y', d', e'⟩)) ∧ Below w.heap.size w w' := by
  obtain ⟨x1, x2, y1, y2, d1, d2, e1, e2⟩ := M.ok_iff.1 ha
  obtain ⟨x3, x4, y3, y4, d3, d4, e3, e4⟩ := M.ok_iff.1 hb
  simp only at x1 x2 y1 y2 d1 d2 e1 e2 x3 x4 y3 y4 d3 d4 e3 e4
  clear ha hb
  by_cases hs : d + x = d' + x'
  · have r1 : M.ord 3 ⟨x, y, d, e⟩ ⟨x', y', d', e'⟩ = M.lex ⟨x, y, d, e⟩ ⟨x', y', d', e'⟩ := by simp [M.ord, hs]
    rw [r1]
    have b1 : (d + x != d' + x') = false := by simp [hs]
    clear hs r1
    go_enter Tryd.func23, Tryd.ntmps23
    go_wp2_with fail
    go_region
    all_goals
      go_wp2_with (first | (go_at_call 35; refine (lexS x y d e x' y' d' e' _).mono ?_; rintro r w5 ⟨rfl, hb5⟩) | (go_at_call 34; refine (cmpS _ _ _).mono ?_; rintro r w' ⟨rfl, rfl⟩))
      go_ret
      exact ⟨rfl, bel_next (bel_two w _ _).drew hb5⟩
  · have r1 : M.ord 3 ⟨x, y, d, e⟩ ⟨x', y', d', e'⟩ = c3 (d + x) (d' + x') := by simp [M.ord, hs]
    rw [r1]
    have b1 : (d + x != d' + x') = true := by simp [hs]
    clear hs r1
    go_enter Tryd.func23, Tryd.ntmps23
    go_wp2_with fail
    go_region
    all_goals
      go_wp2_with (first | (go_at_call 35; refine (lexS x y d e x' y' d' e' _).mono ?_; rintro r w5 ⟨rfl, hb5⟩) | (go_at_call 34; refine (cmpS _ _ _).mono ?_; rintro r w' ⟨rfl, rfl⟩))
      go_ret
      exact ⟨rfl, (bel_two w _ _).drew⟩
theorem ordS (o : Int) (x y d e x' y' d' e' : Int) (w : World) (h : o = 3 → M.ok ⟨x, y, d, e⟩ = true ∧ M.ok ⟨x', y', d', e'⟩ = true) :
    Calls Tryd.prog 23 #[.int .i64 o, .agg #[.int .i64 x, .int .i64 y, .int .i64 d, .int .i64 e], .agg #[.int .i64 x', .int .i64 y', .int .i64 d', .int .i64 e']] w fun r w' => r = .returned (.int .i64 (M.ord o ⟨x, y, d, e⟩ ⟨x', y', d', e'⟩)) ∧ Below w.heap.size w w' := by
  by_cases h1 : o = 1
  · subst h1; exact ordS1 x y d e x' y' d' e' w
  · by_cases h3 : o = 3
    · subst h3; exact ordS3 x y d e x' y' d' e' w (h rfl).1 (h rfl).2
    · exact ordS2 o x y d e x' y' d' e' w h1 h3
end Go.Proofs.YtoglomfejgpoeaaDoor
