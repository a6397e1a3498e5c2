/-
  A monomial's rank: what is made on the way lies behind what was there, and draws only rise.
  The closure by which a sum's monomials are put in order.
  slices.SortFunc of monomials, laid.
-/
import Derived.Test.YtfjmpempemingaaGad
import Derived.Sort.Row
import Derived.Shelf.SlSortCmp.QuietGrown
import Derived.Test.YtfjmpempemingaaGae
import Derived.Shelf.SlSortCmp.InsertionK
import Derived.Shelf.Lay
import Derived.Ground.SlsfProg
namespace Go.Proofs.Ytfjmpempemingaa
open Go.RowKit Go.Sort
set_option linter.unusedVariables false

/-- u grew out of w: all that lay in w lies there, and draws rose. -/
structure Gr (w u : World) : Prop where
  below : Below w.heap.size w u
  drawn : w.drawn ≤ u.drawn
theorem Gr.refl (w : World) : Gr w w := ⟨Below.refl _ _, Nat.le_refl _⟩
theorem Gr.trans {a b c : World} (h : Gr a b) (k : Gr b c) : Gr a c := ⟨h.below.trans (k.below.mono h.below.size), Nat.le_trans h.drawn k.drawn⟩
theorem Gr.alloc (w : World) (o : Obj) : Gr w (w.alloc o) := ⟨bel_one w o, by simp⟩
theorem Gr.drew (w : World) : Gr w w.drew := ⟨(Below.refl _ _).drew, by simp⟩
theorem Gr.form {w u : World} (h : Gr w u) : ∃ q os, u = grow (w.drewN q) os := by
  refine ⟨u.drawn - w.drawn, u.heap.extract w.heap.size u.heap.size, ?_⟩
  obtain ⟨⟨h1, h2, h3, h4, h5⟩, h6⟩ := h
  cases u with
  | mk heap tape drawn os output =>
    simp only at h1 h2 h3 h4 h5 h6
    subst h1 h2 h3
    have hh : w.heap ++ heap.extract w.heap.size heap.size = heap := by
      apply Array.ext_getElem?
      intro i
      by_cases hi : i < w.heap.size
      · rw [Array.getElem?_append_left hi, h5 i hi]
      · rw [Array.getElem?_append_right (by omega), Array.getElem?_extract]
        split
        · congr 1; omega
        · exact (Array.getElem?_eq_none (by omega)).symm
    have hd : w.drawn + (drawn - w.drawn) = drawn := by omega
    simp only [grow, World.drewN]
    rw [hh, hd]
def ExtG (w : World) : Type := Subtype (fun u : World => Gr w u)
theorem ExtG.there (w : World) : Nonempty (ExtG w) := ⟨⟨w, Gr.refl _⟩⟩
theorem wp_region_extG {P : Program} {id : Nat} {Q : Exit → Act → World → Prop} {a : Act} {w : World} {l : List Oper} (hm : P.follows .mixedOrders = true) (hB : Region.lexB .any l.toArray = true)
    (h : wpQuiet P l.toArray (fun u => ∃ x : ExtG w, u = x.1) (fun a' => ∀ w', (∃ x : ExtG w, w' = x.1) → Q .normal a' w') l a) : (Code.region id l.toArray true).wp P Q a w :=
  wp_region_quiet (C := fun u => ∃ x : ExtG w, u = x.1) hm hB ⟨⟨_, Gr.drew _⟩, rfl⟩ (by simpa using h)
theorem extG_same {P : Program} {f : FuncId} {args : Array Value} {w : World} {x : ExtG w} {v : Value}
    (h : Calls P f args x.1 fun e w' => e = .returned v ∧ w' = x.1) : Calls P f args x.1 fun e w'' => e = .returned v ∧ ∃ y : ExtG w, w'' = y.1 :=
  h.mono fun _ _ ⟨he, hm⟩ => ⟨he, x, hm⟩
theorem extG_grows {P : Program} {f : FuncId} {args : Array Value} {w : World} {x : ExtG w} {v : Value}
    (h : Calls P f args x.1 fun e w' => e = .returned v ∧ Gr x.1 w') : Calls P f args x.1 fun e w'' => e = .returned v ∧ ∃ y : ExtG w, w'' = y.1 :=
  h.mono fun _ w' ⟨he, hm⟩ => ⟨he, ⟨w', x.2.trans hm⟩, rfl⟩
theorem extG_box {w : World} {t : TypeId} (cs : Array Value) (k : Nat) (v : Value) (h : cs[k]? = some v) : ∀ u : ExtG (w.alloc (.cells cs t)), u.1.cell? ⟨w.heap.size, k, none⟩ = some v := fun u => by
  have := ext_box (w := w) (t := t) cs k v h ⟨u.1, u.2.below⟩
  exact this
set_option maxHeartbeats 400000 in
theorem degreeG (x y d e : Int) (w : World) (h : M.ok ⟨x, y, d, e⟩ = true) :
    Calls Try.prog 74 #[.agg #[.int .i64 x, .int .i64 y, .int .i64 d, .int .i64 e]] w fun r w' => r = .returned (.int .i64 (x + y + d + e)) ∧ Gr w w' := by
  obtain ⟨x1, x2, y1, y2, d1, d2, e1, e2⟩ := M.ok_iff.1 h
  simp only at x1 x2 y1 y2 d1 d2 e1 e2
  clear h
  go_enter Try.func74, Try.ntmps74
  go_wp2
  go_ret
  exact ⟨rfl, Gr.alloc w _⟩
set_option maxHeartbeats 400000 in
theorem rankLexG (x y d e : Int) (w : World) (h : M.ok ⟨x, y, d, e⟩ = true) :
    Calls Try.prog 71 #[.agg #[.int .i64 x, .int .i64 y, .int .i64 d, .int .i64 e]] w fun r w' => r = .returned (.int .i64 (rkL ⟨x, y, d, e⟩)) ∧ Gr w w' := by
  obtain ⟨x1, x2, y1, y2, d1, d2, e1, e2⟩ := M.ok_iff.1 h
  simp only at x1 x2 y1 y2 d1 d2 e1 e2
  clear h
  simp only [rkL]
  go_enter Try.func71, Try.ntmps71
  go_wp2
  go_ret
  exact ⟨rfl, Gr.alloc w _⟩
set_option maxHeartbeats 1000000 in
theorem rankDegG (x y d e : Int) (w : World) (h : M.ok ⟨x, y, d, e⟩ = true) :
    Calls Try.prog 52 #[.agg #[.int .i64 x, .int .i64 y, .int .i64 d, .int .i64 e]] w fun r w' => r = .returned (.int .i64 (rkD ⟨x, y, d, e⟩)) ∧ Gr w w' := by
  obtain ⟨x1, x2, y1, y2, d1, d2, e1, e2⟩ := M.ok_iff.1 h
  simp only at x1 x2 y1 y2 d1 d2 e1 e2
  have HK := Hid.mk' h
  have k1 : 0 ≤ rkL ⟨x, y, d, e⟩ := by simp only [rkL]; omega
  have k2 : rkL ⟨x, y, d, e⟩ ≤ 65535 := by simp only [rkL]; omega
  have r1 : rkD ⟨x, y, d, e⟩ = (x + y + d + e) * 65536 + rkL ⟨x, y, d, e⟩ := rfl
  rw [r1]
  clear h r1
  go_enter Try.func52, Try.ntmps52
  go_wp2_with fail
  have B1 := Hid.mk' (Gr.alloc w (.cells #[.int .i64 x, .int .i64 y, .int .i64 d, .int .i64 e] 32))
  have ne := ExtG.there (w.alloc (.cells #[.int .i64 x, .int .i64 y, .int .i64 d, .int .i64 e] 32))
  have s0 := extG_box (w := w) (t := 32) #[.int .i64 x, .int .i64 y, .int .i64 d, .int .i64 e] 0 _ rfl
  have s1 := extG_box (w := w) (t := 32) #[.int .i64 x, .int .i64 y, .int .i64 d, .int .i64 e] 1 _ rfl
  have s2 := extG_box (w := w) (t := 32) #[.int .i64 x, .int .i64 y, .int .i64 d, .int .i64 e] 2 _ rfl
  have s3 := extG_box (w := w) (t := 32) #[.int .i64 x, .int .i64 y, .int .i64 d, .int .i64 e] 3 _ rfl
  refine wp_region_extG (by kernel_rfl) (by kernel_rfl) ?_
  repeat (go_big_quiet_step (first | (go_at_call 74; exact extG_grows (degreeG _ _ _ _ _ HK.out)) | (go_at_call 71; exact extG_grows (rankLexG _ _ _ _ _ HK.out))))
  refine wpQuiet_nil ?_
  rintro _ ⟨u, rfl⟩
  go_wp2
  go_ret
  exact ⟨rfl, B1.out.trans u.2⟩
end Go.Proofs.Ytfjmpempemingaa
namespace Go.Proofs.Ytfjmpempemingaa
open Go.RowKit Go.Sort
set_option linter.unusedVariables false

theorem ExtG.cell {w : World} (x : ExtG w) {b o : Nat} (h : b < w.heap.size) : x.1.cell? ⟨b, o, none⟩ = w.cell? ⟨b, o, none⟩ := x.2.below.cell (p := ⟨b, o, none⟩) h
set_option maxHeartbeats 2000000 in
theorem cmpClosure (Br : Nat) (x y d e x' y' d' e' : Int) (w : World) (h : M.ok ⟨x, y, d, e⟩ = true) (h' : M.ok ⟨x', y', d', e'⟩ = true) (hB : Br < w.heap.size) (hr : w.cell? ⟨Br, 0, none⟩ = some (.func (.func 52) #[] #[])) :
    Calls Try.prog 84 #[.agg #[.int .i64 x, .int .i64 y, .int .i64 d, .int .i64 e], .agg #[.int .i64 x', .int .i64 y', .int .i64 d', .int .i64 e'], .pointer (some ⟨Br, 0, none⟩)] w fun r w' => r = .returned (.int .i64 (c3 (rkD ⟨x, y, d, e⟩) (rkD ⟨x', y', d', e'⟩))) ∧ Gr w w' := by
  have HA := Hid.mk' h
  have HB := Hid.mk' h'
  clear h h'
  go_enter Try.func84, Try.ntmps84
  go_wp2_with fail
  have B1 := Hid.mk' ((Gr.alloc w (.cells #[.int .i64 x, .int .i64 y, .int .i64 d, .int .i64 e] 32)).trans (Gr.alloc _ (.cells #[.int .i64 x', .int .i64 y', .int .i64 d', .int .i64 e'] 32)))
  have r0 : ((w.alloc (.cells #[.int .i64 x, .int .i64 y, .int .i64 d, .int .i64 e] 32)).alloc (.cells #[.int .i64 x', .int .i64 y', .int .i64 d', .int .i64 e'] 32)).cell? ⟨Br, 0, none⟩ = some (.func (.func 52) #[] #[]) := (B1.out.below.cell (p := ⟨Br, 0, none⟩) hB).trans hr
  have a0 : ((w.alloc (.cells #[.int .i64 x, .int .i64 y, .int .i64 d, .int .i64 e] 32)).alloc (.cells #[.int .i64 x', .int .i64 y', .int .i64 d', .int .i64 e'] 32)).cell? ⟨w.heap.size, 0, none⟩ = some (.int .i64 x) := by go_simp
  have a1 : ((w.alloc (.cells #[.int .i64 x, .int .i64 y, .int .i64 d, .int .i64 e] 32)).alloc (.cells #[.int .i64 x', .int .i64 y', .int .i64 d', .int .i64 e'] 32)).cell? ⟨w.heap.size, 1, none⟩ = some (.int .i64 y) := by go_simp
  have a2 : ((w.alloc (.cells #[.int .i64 x, .int .i64 y, .int .i64 d, .int .i64 e] 32)).alloc (.cells #[.int .i64 x', .int .i64 y', .int .i64 d', .int .i64 e'] 32)).cell? ⟨w.heap.size, 2, none⟩ = some (.int .i64 d) := by go_simp
  have a3 : ((w.alloc (.cells #[.int .i64 x, .int .i64 y, .int .i64 d, .int .i64 e] 32)).alloc (.cells #[.int .i64 x', .int .i64 y', .int .i64 d', .int .i64 e'] 32)).cell? ⟨w.heap.size, 3, none⟩ = some (.int .i64 e) := by go_simp
  have b0 : ((w.alloc (.cells #[.int .i64 x, .int .i64 y, .int .i64 d, .int .i64 e] 32)).alloc (.cells #[.int .i64 x', .int .i64 y', .int .i64 d', .int .i64 e'] 32)).cell? ⟨w.heap.size + 1, 0, none⟩ = some (.int .i64 x') := by go_simp
  have b1 : ((w.alloc (.cells #[.int .i64 x, .int .i64 y, .int .i64 d, .int .i64 e] 32)).alloc (.cells #[.int .i64 x', .int .i64 y', .int .i64 d', .int .i64 e'] 32)).cell? ⟨w.heap.size + 1, 1, none⟩ = some (.int .i64 y') := by go_simp
  have b2 : ((w.alloc (.cells #[.int .i64 x, .int .i64 y, .int .i64 d, .int .i64 e] 32)).alloc (.cells #[.int .i64 x', .int .i64 y', .int .i64 d', .int .i64 e'] 32)).cell? ⟨w.heap.size + 1, 2, none⟩ = some (.int .i64 d') := by go_simp
  have b3 : ((w.alloc (.cells #[.int .i64 x, .int .i64 y, .int .i64 d, .int .i64 e] 32)).alloc (.cells #[.int .i64 x', .int .i64 y', .int .i64 d', .int .i64 e'] 32)).cell? ⟨w.heap.size + 1, 3, none⟩ = some (.int .i64 e') := by go_simp
  have z : ((w.alloc (.cells #[.int .i64 x, .int .i64 y, .int .i64 d, .int .i64 e] 32)).alloc (.cells #[.int .i64 x', .int .i64 y', .int .i64 d', .int .i64 e'] 32)).heap.size = w.heap.size + 2 := by simp
  generalize (w.alloc (.cells #[.int .i64 x, .int .i64 y, .int .i64 d, .int .i64 e] 32)).alloc (.cells #[.int .i64 x', .int .i64 y', .int .i64 d', .int .i64 e'] 32) = wb at *
  have ne := ExtG.there wb
  have sr : ∀ u : ExtG wb, u.1.cell? ⟨Br, 0, none⟩ = some (.func (.func 52) #[] #[]) := fun u => (u.cell (by omega)).trans r0
  have s0 : ∀ u : ExtG wb, u.1.cell? ⟨w.heap.size, 0, none⟩ = some (.int .i64 x) := fun u => (u.cell (by omega)).trans a0
  have s1 : ∀ u : ExtG wb, u.1.cell? ⟨w.heap.size, 1, none⟩ = some (.int .i64 y) := fun u => (u.cell (by omega)).trans a1
  have s2 : ∀ u : ExtG wb, u.1.cell? ⟨w.heap.size, 2, none⟩ = some (.int .i64 d) := fun u => (u.cell (by omega)).trans a2
  have s3 : ∀ u : ExtG wb, u.1.cell? ⟨w.heap.size, 3, none⟩ = some (.int .i64 e) := fun u => (u.cell (by omega)).trans a3
  have t0 : ∀ u : ExtG wb, u.1.cell? ⟨w.heap.size + 1, 0, none⟩ = some (.int .i64 x') := fun u => (u.cell (by omega)).trans b0
  have t1 : ∀ u : ExtG wb, u.1.cell? ⟨w.heap.size + 1, 1, none⟩ = some (.int .i64 y') := fun u => (u.cell (by omega)).trans b1
  have t2 : ∀ u : ExtG wb, u.1.cell? ⟨w.heap.size + 1, 2, none⟩ = some (.int .i64 d') := fun u => (u.cell (by omega)).trans b2
  have t3 : ∀ u : ExtG wb, u.1.cell? ⟨w.heap.size + 1, 3, none⟩ = some (.int .i64 e') := fun u => (u.cell (by omega)).trans b3
  clear a0 a1 a2 a3 b0 b1 b2 b3 r0
  refine wp_region_extG (by kernel_rfl) (by kernel_rfl) ?_
  repeat (go_big_quiet_step (first | (go_at_call 85; exact extG_same (compareI _ _ _)) | (go_at_call_of 52 (Value.int IntKind.i64 x); exact extG_grows (rankDegG _ _ _ _ _ HA.out)) | (go_at_call 52; exact extG_grows (rankDegG _ _ _ _ _ HB.out))))
  refine wpQuiet_nil ?_
  rintro _ ⟨u, rfl⟩
  go_wp2
  go_ret
  exact ⟨rfl, B1.out.trans u.2⟩
end Go.Proofs.Ytfjmpempemingaa
namespace Go.Proofs.Ytfjmpempemingaa
open Go.RowKit Go.Sort Go.Shelf Go.Lib
set_option linter.unusedVariables false

/-- a monomial that is ok. -/
abbrev OM : Type := { m : M // m.ok = true }
def cellsO (m : OM) : List Value := [.int .i64 m.1.x, .int .i64 m.1.y, .int .i64 m.1.d, .int .i64 m.1.e]
instance : Inhabited OM := ⟨⟨⟨0, 0, 0, 0⟩, by decide⟩⟩
theorem cmpLaysM (Br blk off size : Nat) (w : World) (hB : Br < w.heap.size) (hne : Br ≠ blk) (hr : w.cell? ⟨Br, 0, none⟩ = some (.func (.func 52) #[] #[])) :
    CmpLays Try.prog 84 #[.pointer (some ⟨Br, 0, none⟩)] cellsO 4 (fun x y => c3 (rkD x.1) (rkD y.1)) blk off size w := by
  intro m os dk hdk x y
  have hr' : (sortWorldK cellsO 4 w blk off m dk os).cell? ⟨Br, 0, none⟩ = some (.func (.func 52) #[] #[]) := by
    unfold sortWorldK
    rw [cell?_grow _ _ _ (by rw [size_putRowK]; exact hB), cell?_putRowK_other _ _ _ blk off dk _ hne]
    exact hr
  have hB' : Br < (sortWorldK cellsO 4 w blk off m dk os).heap.size := by
    unfold sortWorldK
    rw [size_grow, size_putRowK]
    exact Nat.lt_of_lt_of_le hB (Nat.le_add_right _ _)
  refine (cmpClosure Br _ _ _ _ _ _ _ _ _ x.2 y.2 hB' hr').mono ?_
  rintro e w' ⟨rfl, hg⟩
  exact ⟨rfl, hg.form⟩
theorem ltM (x y : OM) : ltOf (fun x y : OM => c3 (rkD x.1) (rkD y.1)) x y = decide (rkD x.1 < rkD y.1) := by
  unfold ltOf c3
  by_cases h1 : rkD x.1 < rkD y.1
  · simp [h1]
  · by_cases h2 : rkD y.1 < rkD x.1 <;> simp [h1, h2]
theorem swoM : SWO (ltOf fun x y : OM => c3 (rkD x.1) (rkD y.1)) where
  irrefl x := by rw [ltM]; simp
  trans x y z h1 h2 := by rw [ltM] at *; simp at *; omega
  ntrans x y z h1 h2 := by rw [ltM] at *; simp at *; omega
shelf_lay_g SlLaysF0.n6 Slsf 6 at Try 96 as sortM
end Go.Proofs.Ytfjmpempemingaa
