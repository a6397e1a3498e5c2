/-
  What the functions of chapter 2's model return: monomials as four numbers.
-/
import Derived.Test.YtnfgiplgkobnlabDoorRows
import Derived.WalkKit
import Derived.Test.YtnfgiplgkobnlabDoorMath
import Derived.Test.YtnfgiplgkobnlabDoorWalks
import Derived.Deep.RegionHeld3
import Derived.Deep.Light
namespace Go.Proofs.YtnfgiplgkobnlabDoor
open Go.RowKit
set_option linter.unusedVariables false

/-- a monomial: how often each factor stands in it. -/
structure M where
  x : Int
  y : Int
  d : Int
  e : Int
def M.ok (m : M) : Bool := decide (0 ≤ m.x ∧ m.x ≤ 15 ∧ 0 ≤ m.y ∧ m.y ≤ 15 ∧ 0 ≤ m.d ∧ m.d ≤ 15 ∧ 0 ≤ m.e ∧ m.e ≤ 15)
theorem M.ok_iff {m : M} : m.ok = true ↔ 0 ≤ m.x ∧ m.x ≤ 15 ∧ 0 ≤ m.y ∧ m.y ≤ 15 ∧ 0 ≤ m.d ∧ m.d ≤ 15 ∧ 0 ≤ m.e ∧ m.e ≤ 15 := by simp [M.ok]
theorem M.ok_not {m : M} : m.ok = false ↔ ¬ (0 ≤ m.x ∧ m.x ≤ 15 ∧ 0 ≤ m.y ∧ m.y ≤ 15 ∧ 0 ≤ m.d ∧ m.d ≤ 15 ∧ 0 ≤ m.e ∧ m.e ≤ 15) := by
  rw [← M.ok_iff]; simp
def M.deg (m : M) : Int := if m.ok then m.x + m.y + m.d + m.e else 0
/-- less, the same, more. -/
def c3 (a b : Int) : Int := if a < b then -1 else if b < a then 1 else 0
def M.lex (a b : M) : Int := if a.d ≠ b.d then c3 a.d b.d else if a.e ≠ b.e then c3 a.e b.e else if a.x ≠ b.x then c3 a.x b.x else c3 a.y b.y
def M.ord (o : Int) (a b : M) : Int :=
  if o = 1 ∧ a.deg ≠ b.deg then c3 a.deg b.deg else if o = 3 ∧ a.d + a.x ≠ b.d + b.x then c3 (a.d + a.x) (b.d + b.x) else M.lex a b
def M.cmp (o : Int) (a b : M) : Int := if (1 ≤ o ∧ o ≤ 3) ∧ a.ok = true ∧ b.ok = true then M.ord o a b else 0
def M.zero : M := ⟨0, 0, 0, 0⟩
def M.sum (a b : M) : M := ⟨a.x + b.x, a.y + b.y, a.d + b.d, a.e + b.e⟩
def M.mul (a b : M) : M × Bool := if a.ok = true ∧ b.ok = true ∧ (a.sum b).ok = true then (a.sum b, true) else (M.zero, false)
def M.dvd (a b : M) : Bool := a.ok && b.ok && decide (a.x ≤ b.x ∧ a.y ≤ b.y ∧ a.d ≤ b.d ∧ a.e ≤ b.e)
def M.diff (b a : M) : M := ⟨b.x - a.x, b.y - a.y, b.d - a.d, b.e - a.e⟩
def M.over (b a : M) : M × Bool := if a.dvd b = true then (b.diff a, true) else (M.zero, false)
def mx (a b : Int) : Int := if b < a then a else b
def M.both (a b : M) : M := if a.ok = true ∧ b.ok = true then ⟨mx a.x b.x, mx a.y b.y, mx a.d b.d, mx a.e b.e⟩ else M.zero
theorem Hid.mk' {p : Prop} (h : p) : Hid p := h
theorem bcell {W w1 : World} (hb : Below W.heap.size W w1) : (∀ b o, b < W.heap.size → w1.cell? ⟨b, o, none⟩ = W.cell? ⟨b, o, none⟩) ∧ (∀ b o, b < W.heap.size → w1.frozen? ⟨b, o, none⟩ = W.frozen? ⟨b, o, none⟩) :=
  ⟨fun b o h => hb.cell (p := ⟨b, o, none⟩) h, fun b o h => hb.frozen (p := ⟨b, o, none⟩) h⟩

set_option maxHeartbeats 400000 in
theorem monOkS (x y d e : Int) (w : World) :
    Calls Tryd.prog 8 #[.agg #[.int .i64 x, .int .i64 y, .int .i64 d, .int .i64 e]] w fun r w' => r = .returned (.bool (M.ok ⟨x, y, d, e⟩)) ∧ Below w.heap.size w w' := by
  by_cases hx : 0 ≤ x ∧ x ≤ 15
  · by_cases hy : 0 ≤ y ∧ y ≤ 15
    · by_cases hd : 0 ≤ d ∧ d ≤ 15
      · by_cases he : 0 ≤ e ∧ e ≤ 15
        · rw [M.ok_iff.2 ⟨hx.1, hx.2, hy.1, hy.2, hd.1, hd.2, he.1, he.2⟩]
          obtain ⟨x1, x2⟩ := hx
          obtain ⟨y1, y2⟩ := hy
          obtain ⟨d1, d2⟩ := hd
          obtain ⟨e1, e2⟩ := he
          go_enter Tryd.func8, Tryd.ntmps8
          go_wp2_with (first | (go_at_call 13; first | (refine (inS_in _ _ _ _ (by omega) (by omega)).mono ?_; rintro e w' ⟨rfl, rfl⟩) | (refine (inS_out _ _ _ _ (by omega)).mono ?_; rintro e w' ⟨rfl, rfl⟩)))
          go_ret
          exact ⟨rfl, (Below.refl _ _).alloc (Nat.le_refl _) _⟩
        · rw [M.ok_not.2 (fun h => he ⟨h.2.2.2.2.2.2.1, h.2.2.2.2.2.2.2⟩)]
          go_enter Tryd.func8, Tryd.ntmps8
          go_wp2_with (first | (go_at_call 13; first | (refine (inS_in _ _ _ _ (by omega) (by omega)).mono ?_; rintro e w' ⟨rfl, rfl⟩) | (refine (inS_out _ _ _ _ (by omega)).mono ?_; rintro e w' ⟨rfl, rfl⟩)))
          go_ret
          exact ⟨rfl, (Below.refl _ _).alloc (Nat.le_refl _) _⟩
      · rw [M.ok_not.2 (fun h => hd ⟨h.2.2.2.2.1, h.2.2.2.2.2.1⟩)]
        go_enter Tryd.func8, Tryd.ntmps8
        go_wp2_with (first | (go_at_call 13; first | (refine (inS_in _ _ _ _ (by omega) (by omega)).mono ?_; rintro e w' ⟨rfl, rfl⟩) | (refine (inS_out _ _ _ _ (by omega)).mono ?_; rintro e w' ⟨rfl, rfl⟩)))
        go_ret
        exact ⟨rfl, (Below.refl _ _).alloc (Nat.le_refl _) _⟩
    · rw [M.ok_not.2 (fun h => hy ⟨h.2.2.1, h.2.2.2.1⟩)]
      go_enter Tryd.func8, Tryd.ntmps8
      go_wp2_with (first | (go_at_call 13; first | (refine (inS_in _ _ _ _ (by omega) (by omega)).mono ?_; rintro e w' ⟨rfl, rfl⟩) | (refine (inS_out _ _ _ _ (by omega)).mono ?_; rintro e w' ⟨rfl, rfl⟩)))
      go_ret
      exact ⟨rfl, (Below.refl _ _).alloc (Nat.le_refl _) _⟩
  · rw [M.ok_not.2 (fun h => hx ⟨h.1, h.2.1⟩)]
    go_enter Tryd.func8, Tryd.ntmps8
    go_wp2_with (first | (go_at_call 13; first | (refine (inS_in _ _ _ _ (by omega) (by omega)).mono ?_; rintro e w' ⟨rfl, rfl⟩) | (refine (inS_out _ _ _ _ (by omega)).mono ?_; rintro e w' ⟨rfl, rfl⟩)))
    go_ret
    exact ⟨rfl, (Below.refl _ _).alloc (Nat.le_refl _) _⟩
theorem monOkS_of {x y d e : Int} {b : Bool} (h : M.ok ⟨x, y, d, e⟩ = b) (w : World) :
    Calls Tryd.prog 8 #[.agg #[.int .i64 x, .int .i64 y, .int .i64 d, .int .i64 e]] w fun r w' => r = .returned (.bool b) ∧ Below w.heap.size w w' := by
  rw [← h]; exact monOkS x y d e w
theorem bel_next {w W W' : World} (a : Below w.heap.size w W) (h : Below W.heap.size W W') : Below w.heap.size w W' := a.trans (h.mono a.size)
theorem bel_two (w : World) (A B : Obj) : Below w.heap.size w ((w.alloc A).alloc B) := ((Below.refl _ _).alloc (Nat.le_refl _) _).alloc (by simp) _
theorem bel_three (w : World) (A B C : Obj) : Below w.heap.size w (((w.alloc A).alloc B).alloc C) := (bel_two w A B).alloc (bel_two w A B).size _
theorem bel_set4 {n B : Nat} {a w : World} (h : Below n a w) (hB : n ≤ B) (u0 u1 u2 u3 : Value) : Below n a ((((w.setCell ⟨B, 0, none⟩ u0).setCell ⟨B, 1, none⟩ u1).setCell ⟨B, 2, none⟩ u2).setCell ⟨B, 3, none⟩ u3) :=
  (((h.setCell hB u0).setCell hB u1).setCell hB u2).setCell hB u3
end Go.Proofs.YtnfgiplgkobnlabDoor
