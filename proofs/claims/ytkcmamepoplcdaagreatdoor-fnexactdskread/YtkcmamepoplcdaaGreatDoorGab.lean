/-
  More of chapter 2's model: what divides, what is left, what both divide.
  A region that draws its order, whose callees make memory of their own but hand back one value whatever the world: one walk in the order of the text, over every world that grew out of the one at hand.
  What the functions of the program's chapter 2 return: the same plain functions as the model's.
-/
import Derived.Test.YtkcmamepoplcdaaGreatDoorGaa
import Derived.Test.YtkcmamepoplcdaaGreatDoorRows
import Derived.WalkKit
import Derived.Deep.QuietTactic
import Derived.BigQuiet
namespace Go.Proofs.YtkcmamepoplcdaaGreatDoor
open Go.RowKit
set_option linter.unusedVariables false

theorem M.dvd_iff {a b : M} (h : a.dvd b = true) : a.ok = true ∧ b.ok = true ∧ a.x ≤ b.x ∧ a.y ≤ b.y ∧ a.d ≤ b.d ∧ a.e ≤ b.e := by
  simp [M.dvd] at h
  exact ⟨h.1.1, h.1.2, h.2⟩
theorem far4 {w : World} {B b o o0 o1 o2 o3 : Nat} {u0 u1 u2 u3 : Value} (h : b ≠ B) : ((((w.setCell ⟨B, o0, none⟩ u0).setCell ⟨B, o1, none⟩ u1).setCell ⟨B, o2, none⟩ u2).setCell ⟨B, o3, none⟩ u3).cell? ⟨b, o, none⟩ = w.cell? ⟨b, o, none⟩ := by
  refine World.cell?_of_block ?_
  rw [Below.heap_setCell _ _ _ _ h, Below.heap_setCell _ _ _ _ h, Below.heap_setCell _ _ _ _ h, Below.heap_setCell _ _ _ _ h]
end Go.Proofs.YtkcmamepoplcdaaGreatDoor
namespace Go.Proofs.YtkcmamepoplcdaaGreatDoor
open Go.RowKit

/-- The worlds that grew out of w: below w's own blocks nothing has turned. -/
def Ext (w : World) : Type := Subtype (fun u : World => Below w.heap.size w u)
theorem Ext.there (w : World) : Nonempty (Ext w) := ⟨⟨w, Below.refl _ _⟩⟩
theorem Ext.cell {w : World} (x : Ext w) {b o : Nat} (h : b < w.heap.size) : x.1.cell? ⟨b, o, none⟩ = w.cell? ⟨b, o, none⟩ := x.2.cell (p := ⟨b, o, none⟩) h
theorem wp_region_ext {P : Program} {id : Nat} {Q : Exit → Act → World → Prop} {a : Act} {w : World} {l : List Oper} (hm : P.follows .mixedOrders = true) (hB : Region.lexB .any l.toArray = true)
    (h : wpQuiet P l.toArray (fun u => ∃ x : Ext w, u = x.1) (fun a' => ∀ w', (∃ x : Ext w, w' = x.1) → Q .normal a' w') l a) : (Code.region id l.toArray true).wp P Q a w :=
  wp_region_quiet (C := fun u => ∃ x : Ext w, u = x.1) hm hB ⟨⟨_, (Below.refl _ _).drew⟩, rfl⟩ (by simpa using h)
theorem ext_same {P : Program} {f : FuncId} {args : Array Value} {w : World} {x : Ext w} {v : Value}
    (h : Calls P f args x.1 fun e w' => e = .returned v ∧ w' = x.1) : Calls P f args x.1 fun e w'' => e = .returned v ∧ ∃ y : Ext w, w'' = y.1 :=
  h.mono fun _ _ ⟨he, hm⟩ => ⟨he, x, hm⟩
theorem ext_grows {P : Program} {f : FuncId} {args : Array Value} {w : World} {x : Ext w} {v : Value}
    (h : Calls P f args x.1 fun e w' => e = .returned v ∧ Below x.1.heap.size x.1 w') : Calls P f args x.1 fun e w'' => e = .returned v ∧ ∃ y : Ext w, w'' = y.1 :=
  h.mono fun _ w' ⟨he, hm⟩ => ⟨he, ⟨w', x.2.trans (hm.mono x.2.size)⟩, rfl⟩
end Go.Proofs.YtkcmamepoplcdaaGreatDoor
namespace Go.Proofs.YtkcmamepoplcdaaGreatDoor
open Go.RowKit
set_option linter.unusedVariables false

theorem bel_one (w : World) (A : Obj) : Below w.heap.size w (w.alloc A) := (Below.refl _ _).alloc (Nat.le_refl _) _
theorem ext_box {w : World} {t : TypeId} (A : Array Value) (i : Nat) (v : Value) (h : A[i]? = some v) : ∀ u : Ext (w.alloc (.cells A t)), u.1.cell? ⟨w.heap.size, i, none⟩ = some v := fun u => by
  rw [u.cell (by simp), World.cell?_alloc_at _ _ _ _ rfl]; exact h
set_option maxHeartbeats 400000 in
theorem countsI (x y d e : Int) (w : World) :
    Calls Tryz.prog 127 #[.agg #[.int .i64 x, .int .i64 y, .int .i64 d, .int .i64 e]] w fun r w' => r = .returned (.agg #[.int .i64 x, .int .i64 y, .int .i64 d, .int .i64 e]) ∧ Below w.heap.size w w' := by
  go_enter Tryz.func127, Tryz.ntmps127
  go_wp2
  refine bodyPost_ret (v := .agg #[.int .i64 x, .int .i64 y, .int .i64 d, .int .i64 e]) (by simp [results, Tryz.results127, go_sem]) rfl ⟨rfl, ?_⟩
  exact bel_two w _ _
set_option maxHeartbeats 400000 in
theorem degreeI (x y d e : Int) (w : World) (h : M.ok ⟨x, y, d, e⟩ = true) :
    Calls Tryz.prog 125 #[.agg #[.int .i64 x, .int .i64 y, .int .i64 d, .int .i64 e]] w fun r w' => r = .returned (.int .i64 (x + y + d + e)) ∧ Below w.heap.size w w' := by
  obtain ⟨x1, x2, y1, y2, d1, d2, e1, e2⟩ := M.ok_iff.1 h
  simp only at x1 x2 y1 y2 d1 d2 e1 e2
  clear h
  go_enter Tryz.func125, Tryz.ntmps125
  go_wp2
  go_ret
  exact ⟨rfl, bel_one w _⟩
/-- what an order asks for, as one number. -/
def rkL (m : M) : Int := ((m.d * 16 + m.e) * 16 + m.x) * 16 + m.y
def rkD (m : M) : Int := (m.x + m.y + m.d + m.e) * 65536 + rkL m
def rkO (m : M) : Int := (m.d + m.x) * 65536 + rkL m
set_option maxHeartbeats 400000 in
theorem rankLexI (x y d e : Int) (w : World) (h : M.ok ⟨x, y, d, e⟩ = true) :
    Calls Tryz.prog 126 #[.agg #[.int .i64 x, .int .i64 y, .int .i64 d, .int .i64 e]] w fun r w' => r = .returned (.int .i64 (rkL ⟨x, y, d, e⟩)) ∧ Below w.heap.size w w' := by
  obtain ⟨x1, x2, y1, y2, d1, d2, e1, e2⟩ := M.ok_iff.1 h
  simp only at x1 x2 y1 y2 d1 d2 e1 e2
  clear h
  simp only [rkL]
  go_enter Tryz.func126, Tryz.ntmps126
  go_wp2
  go_ret
  exact ⟨rfl, bel_one w _⟩
set_option maxHeartbeats 1000000 in
theorem rankDegI (x y d e : Int) (w : World) (h : M.ok ⟨x, y, d, e⟩ = true) :
    Calls Tryz.prog 88 #[.agg #[.int .i64 x, .int .i64 y, .int .i64 d, .int .i64 e]] w fun r w' => r = .returned (.int .i64 (rkD ⟨x, y, d, e⟩)) ∧ Below w.heap.size w w' := by
  obtain ⟨x1, x2, y1, y2, d1, d2, e1, e2⟩ := M.ok_iff.1 h
  simp only at x1 x2 y1 y2 d1 d2 e1 e2
  have HK := Hid.mk' h
  have k1 : 0 ≤ rkL ⟨x, y, d, e⟩ := by simp only [rkL]; omega
  have k2 : rkL ⟨x, y, d, e⟩ ≤ 65535 := by simp only [rkL]; omega
  have r1 : rkD ⟨x, y, d, e⟩ = (x + y + d + e) * 65536 + rkL ⟨x, y, d, e⟩ := rfl
  rw [r1]
  clear h r1
  go_enter Tryz.func88, Tryz.ntmps88
  go_wp2_with fail
  have B1 := Hid.mk' (bel_one w (.cells #[.int .i64 x, .int .i64 y, .int .i64 d, .int .i64 e] 77))
  have ne := Ext.there (w.alloc (.cells #[.int .i64 x, .int .i64 y, .int .i64 d, .int .i64 e] 77))
  have s0 := ext_box (w := w) (t := 77) #[.int .i64 x, .int .i64 y, .int .i64 d, .int .i64 e] 0 _ rfl
  have s1 := ext_box (w := w) (t := 77) #[.int .i64 x, .int .i64 y, .int .i64 d, .int .i64 e] 1 _ rfl
  have s2 := ext_box (w := w) (t := 77) #[.int .i64 x, .int .i64 y, .int .i64 d, .int .i64 e] 2 _ rfl
  have s3 := ext_box (w := w) (t := 77) #[.int .i64 x, .int .i64 y, .int .i64 d, .int .i64 e] 3 _ rfl
  refine wp_region_ext (by kernel_rfl) (by kernel_rfl) ?_
  repeat (go_big_quiet_step (first | (go_at_call 125; exact ext_grows (degreeI _ _ _ _ _ HK.out)) | (go_at_call 126; exact ext_grows (rankLexI _ _ _ _ _ HK.out))))
  refine wpQuiet_nil ?_
  rintro _ ⟨u, rfl⟩
  go_wp2
  go_ret
  exact ⟨rfl, B1.out.trans (u.2.mono B1.out.size)⟩
/-- the four, one by one. -/
def cnt (x y d e : Int) : Nat → Int
  | 0 => x
  | 1 => y
  | 2 => d
  | _ => e
set_option maxHeartbeats 1000000 in
theorem monOkI (x y d e : Int) (w : World) :
    Calls Tryz.prog 116 #[.agg #[.int .i64 x, .int .i64 y, .int .i64 d, .int .i64 e]] w fun r w' => r = .returned (.bool (M.ok ⟨x, y, d, e⟩)) ∧ Below w.heap.size w w' := by
  have i0 : ∀ w : World, (Instr.index 131 (.agg #[.int .i64 x, .int .i64 y, .int .i64 d, .int .i64 e]) (.int .i64 0)).run Tryz.prog w = .ok (.int .i64 x) w := fun _ => by kernel_rfl
  have i1 : ∀ w : World, (Instr.index 131 (.agg #[.int .i64 x, .int .i64 y, .int .i64 d, .int .i64 e]) (.int .i64 1)).run Tryz.prog w = .ok (.int .i64 y) w := fun _ => by kernel_rfl
  have i2 : ∀ w : World, (Instr.index 131 (.agg #[.int .i64 x, .int .i64 y, .int .i64 d, .int .i64 e]) (.int .i64 2)).run Tryz.prog w = .ok (.int .i64 d) w := fun _ => by kernel_rfl
  have i3 : ∀ w : World, (Instr.index 131 (.agg #[.int .i64 x, .int .i64 y, .int .i64 d, .int .i64 e]) (.int .i64 3)).run Tryz.prog w = .ok (.int .i64 e) w := fun _ => by kernel_rfl
  go_enter Tryz.func116, Tryz.ntmps116
  go_wp2_with fail
  refine (countsI x y d e _).mono ?_
  rintro r w1 ⟨rfl, hb⟩
  have B1 := Hid.mk' (bel_next (bel_one w _) hb)
  clear hb
  go_wp2
  go_loop [7] (fun i => ∃ k : Nat, k ≤ 4 ∧ i = .int .i64 k ∧ Hid (∀ j, j < k → 0 ≤ cnt x y d e j ∧ cnt x y d e j ≤ 15)) (fun i => 4 - (intOf i).toNat)
  case atStart => exact ⟨0, by omega, rfl, fun j hj => absurd hj (Nat.not_lt_zero _)⟩
  case round =>
    obtain ⟨k, hk, rfl, hok⟩ := hrel
    have hk5 : k = 4 ∨ k = 0 ∨ k = 1 ∨ k = 2 ∨ k = 3 := by omega
    rcases hk5 with rfl | rfl | rfl | rfl | rfl
    · have hp : M.ok ⟨x, y, d, e⟩ = true := M.ok_iff.2 ⟨(hok.out 0 (by omega)).1, (hok.out 0 (by omega)).2, (hok.out 1 (by omega)).1, (hok.out 1 (by omega)).2, (hok.out 2 (by omega)).1, (hok.out 2 (by omega)).2, (hok.out 3 (by omega)).1, (hok.out 3 (by omega)).2⟩
      have HP := Hid.mk' hp
      clear hp
      go_wp2
      go_ret
      exact ⟨by rw [HP.out]; rfl, B1.out⟩
    · by_cases h1 : x < 0
      · have hp : Hid (M.ok ⟨x, y, d, e⟩ = false) := M.ok_not.2 (fun h => by simp only at h; omega)
        go_wp2
        go_ret
        exact ⟨by rw [hp.out]; rfl, B1.out⟩
      · by_cases h2 : 15 < x
        · have hp : Hid (M.ok ⟨x, y, d, e⟩ = false) := M.ok_not.2 (fun h => by simp only at h; omega)
          go_wp2
          go_ret
          exact ⟨by rw [hp.out]; rfl, B1.out⟩
        · have hn : Hid (∀ j, j < 1 → 0 ≤ cnt x y d e j ∧ cnt x y d e j ≤ 15) := fun j hj => by
            obtain rfl : j = 0 := by omega
            exact ⟨Int.not_lt.1 h1, Int.not_lt.1 h2⟩
          go_wp2
          go_round
          case rel => exact ⟨1, by omega, rfl, hn⟩
          case measure => simp [intOf]
    · by_cases h1 : y < 0
      · have hp : Hid (M.ok ⟨x, y, d, e⟩ = false) := M.ok_not.2 (fun h => by simp only at h; omega)
        go_wp2
        go_ret
        exact ⟨by rw [hp.out]; rfl, B1.out⟩
      · by_cases h2 : 15 < y
        · have hp : Hid (M.ok ⟨x, y, d, e⟩ = false) := M.ok_not.2 (fun h => by simp only at h; omega)
          go_wp2
          go_ret
          exact ⟨by rw [hp.out]; rfl, B1.out⟩
        · have hn : Hid (∀ j, j < 2 → 0 ≤ cnt x y d e j ∧ cnt x y d e j ≤ 15) := fun j hj => by
            by_cases hj1 : j < 1
            · exact hok.out j hj1
            · obtain rfl : j = 1 := by omega
              exact ⟨Int.not_lt.1 h1, Int.not_lt.1 h2⟩
          go_wp2
          go_round
          case rel => exact ⟨2, by omega, rfl, hn⟩
          case measure => simp [intOf]
    · by_cases h1 : d < 0
      · have hp : Hid (M.ok ⟨x, y, d, e⟩ = false) := M.ok_not.2 (fun h => by simp only at h; omega)
        go_wp2
        go_ret
        exact ⟨by rw [hp.out]; rfl, B1.out⟩
      · by_cases h2 : 15 < d
        · have hp : Hid (M.ok ⟨x, y, d, e⟩ = false) := M.ok_not.2 (fun h => by simp only at h; omega)
          go_wp2
          go_ret
          exact ⟨by rw [hp.out]; rfl, B1.out⟩
        · have hn : Hid (∀ j, j < 3 → 0 ≤ cnt x y d e j ∧ cnt x y d e j ≤ 15) := fun j hj => by
            by_cases hj1 : j < 2
            · exact hok.out j hj1
            · obtain rfl : j = 2 := by omega
              exact ⟨Int.not_lt.1 h1, Int.not_lt.1 h2⟩
          go_wp2
          go_round
          case rel => exact ⟨3, by omega, rfl, hn⟩
          case measure => simp [intOf]
    · by_cases h1 : e < 0
      · have hp : Hid (M.ok ⟨x, y, d, e⟩ = false) := M.ok_not.2 (fun h => by simp only at h; omega)
        go_wp2
        go_ret
        exact ⟨by rw [hp.out]; rfl, B1.out⟩
      · by_cases h2 : 15 < e
        · have hp : Hid (M.ok ⟨x, y, d, e⟩ = false) := M.ok_not.2 (fun h => by simp only at h; omega)
          go_wp2
          go_ret
          exact ⟨by rw [hp.out]; rfl, B1.out⟩
        · have hn : Hid (∀ j, j < 4 → 0 ≤ cnt x y d e j ∧ cnt x y d e j ≤ 15) := fun j hj => by
            by_cases hj1 : j < 3
            · exact hok.out j hj1
            · obtain rfl : j = 3 := by omega
              exact ⟨Int.not_lt.1 h1, Int.not_lt.1 h2⟩
          go_wp2
          go_round
          case rel => exact ⟨4, by omega, rfl, hn⟩
          case measure => simp [intOf]
theorem monOkI_of {x y d e : Int} {b : Bool} (h : M.ok ⟨x, y, d, e⟩ = b) (w : World) :
    Calls Tryz.prog 116 #[.agg #[.int .i64 x, .int .i64 y, .int .i64 d, .int .i64 e]] w fun r w' => r = .returned (.bool b) ∧ Below w.heap.size w w' := by
  rw [← h]; exact monOkI x y d e w
end Go.Proofs.YtkcmamepoplcdaaGreatDoor
