/-
  A monomial's rank: what is made on the way lies behind what was there, and draws only rise.
-/
import Derived.Test.YtioecpiogpjlaaaMonoI
import Derived.Sort.Row
import Derived.Shelf.SlSortCmp.QuietGrown
namespace Go.Proofs.Ytioecpiogpjlaaa
open Go.RowKit Go.Sort
set_option linter.unusedVariables false

/-- u grew out of w: all that lay in w lies there, and draws rose. -/
structure Gr (w u : World) : Prop where
  below : Below w.heap.size w u
  drawn : w.drawn ≤ u.drawn
theorem Gr.refl (w : World) : Gr w w := ⟨Below.refl _ _, Nat.le_refl _⟩
theorem Gr.trans {a b c : World} (h : Gr a b) (k : Gr b c) : Gr a c := ⟨h.below.trans (k.below.mono h.below.size), Nat.le_trans h.drawn k.drawn⟩
theorem Gr.alloc (w : World) (o : Obj) : Gr w (w.alloc o) := ⟨bel_one w o, by simp⟩
theorem Gr.drew (w : World) : Gr w w.drew := ⟨(Below.refl _ _).drew, by simp⟩
theorem Gr.form {w u : World} (h : Gr w u) : ∃ q os, u = grow (w.drewN q) os := by
  refine ⟨u.drawn - w.drawn, u.heap.extract w.heap.size u.heap.size, ?_⟩
  obtain ⟨⟨h1, h2, h3, h4, h5⟩, h6⟩ := h
  cases u with
  | mk heap tape drawn os output =>
    simp only at h1 h2 h3 h4 h5 h6
    subst h1 h2 h3
    have hh : w.heap ++ heap.extract w.heap.size heap.size = heap := by
      apply Array.ext_getElem?
      intro i
      by_cases hi : i < w.heap.size
      · rw [Array.getElem?_append_left hi, h5 i hi]
      · rw [Array.getElem?_append_right (by omega), Array.getElem?_extract]
        split
        · congr 1; omega
        · exact (Array.getElem?_eq_none (by omega)).symm
    have hd : w.drawn + (drawn - w.drawn) = drawn := by omega
    simp only [grow, World.drewN]
    rw [hh, hd]
def ExtG (w : World) : Type := Subtype (fun u : World => Gr w u)
theorem ExtG.there (w : World) : Nonempty (ExtG w) := ⟨⟨w, Gr.refl _⟩⟩
theorem wp_region_extG {P : Program} {id : Nat} {Q : Exit → Act → World → Prop} {a : Act} {w : World} {l : List Oper} (hm : P.follows .mixedOrders = true) (hB : Region.lexB .any l.toArray = true)
    (h : wpQuiet P l.toArray (fun u => ∃ x : ExtG w, u = x.1) (fun a' => ∀ w', (∃ x : ExtG w, w' = x.1) → Q .normal a' w') l a) : (Code.region id l.toArray true).wp P Q a w :=
  wp_region_quiet (C := fun u => ∃ x : ExtG w, u = x.1) hm hB ⟨⟨_, Gr.drew _⟩, rfl⟩ (by simpa using h)
theorem extG_same {P : Program} {f : FuncId} {args : Array Value} {w : World} {x : ExtG w} {v : Value}
    (h : Calls P f args x.1 fun e w' => e = .returned v ∧ w' = x.1) : Calls P f args x.1 fun e w'' => e = .returned v ∧ ∃ y : ExtG w, w'' = y.1 :=
  h.mono fun _ _ ⟨he, hm⟩ => ⟨he, x, hm⟩
theorem extG_grows {P : Program} {f : FuncId} {args : Array Value} {w : World} {x : ExtG w} {v : Value}
    (h : Calls P f args x.1 fun e w' => e = .returned v ∧ Gr x.1 w') : Calls P f args x.1 fun e w'' => e = .returned v ∧ ∃ y : ExtG w, w'' = y.1 :=
  h.mono fun _ w' ⟨he, hm⟩ => ⟨he, ⟨w', x.2.trans hm⟩, rfl⟩
theorem extG_box {w : World} {t : TypeId} (cs : Array Value) (k : Nat) (v : Value) (h : cs[k]? = some v) : ∀ u : ExtG (w.alloc (.cells cs t)), u.1.cell? ⟨w.heap.size, k, none⟩ = some v := fun u => by
  have := ext_box (w := w) (t := t) cs k v h ⟨u.1, u.2.below⟩
  exact this
set_option maxHeartbeats 400000 in
theorem degreeG (x y d e : Int) (w : World) (h : M.ok ⟨x, y, d, e⟩ = true) :
    Calls Try.prog 43 #[.agg #[.int .i64 x, .int .i64 y, .int .i64 d, .int .i64 e]] w fun r w' => r = .returned (.int .i64 (x + y + d + e)) ∧ Gr w w' := by
  obtain ⟨x1, x2, y1, y2, d1, d2, e1, e2⟩ := M.ok_iff.1 h
  simp only at x1 x2 y1 y2 d1 d2 e1 e2
  clear h
  go_enter Try.func43, Try.ntmps43
  go_wp2
  go_ret
  exact ⟨rfl, Gr.alloc w _⟩
set_option maxHeartbeats 400000 in
theorem rankLexG (x y d e : Int) (w : World) (h : M.ok ⟨x, y, d, e⟩ = true) :
    Calls Try.prog 69 #[.agg #[.int .i64 x, .int .i64 y, .int .i64 d, .int .i64 e]] w fun r w' => r = .returned (.int .i64 (rkL ⟨x, y, d, e⟩)) ∧ Gr w w' := by
  obtain ⟨x1, x2, y1, y2, d1, d2, e1, e2⟩ := M.ok_iff.1 h
  simp only at x1 x2 y1 y2 d1 d2 e1 e2
  clear h
  simp only [rkL]
  go_enter Try.func69, Try.ntmps69
  go_wp2
  go_ret
  exact ⟨rfl, Gr.alloc w _⟩
set_option maxHeartbeats 1000000 in
theorem rankDegG (x y d e : Int) (w : World) (h : M.ok ⟨x, y, d, e⟩ = true) :
    Calls Try.prog 54 #[.agg #[.int .i64 x, .int .i64 y, .int .i64 d, .int .i64 e]] w fun r w' => r = .returned (.int .i64 (rkD ⟨x, y, d, e⟩)) ∧ Gr w w' := by
  obtain ⟨x1, x2, y1, y2, d1, d2, e1, e2⟩ := M.ok_iff.1 h
  simp only at x1 x2 y1 y2 d1 d2 e1 e2
  have HK := Hid.mk' h
  have k1 : 0 ≤ rkL ⟨x, y, d, e⟩ := by simp only [rkL]; omega
  have k2 : rkL ⟨x, y, d, e⟩ ≤ 65535 := by simp only [rkL]; omega
  have r1 : rkD ⟨x, y, d, e⟩ = (x + y + d + e) * 65536 + rkL ⟨x, y, d, e⟩ := rfl
  rw [r1]
  clear h r1
  go_enter Try.func54, Try.ntmps54
  go_wp2_with fail
  have B1 := Hid.mk' (Gr.alloc w (.cells #[.int .i64 x, .int .i64 y, .int .i64 d, .int .i64 e] 38))
  have ne := ExtG.there (w.alloc (.cells #[.int .i64 x, .int .i64 y, .int .i64 d, .int .i64 e] 38))
  have s0 := extG_box (w := w) (t := 38) #[.int .i64 x, .int .i64 y, .int .i64 d, .int .i64 e] 0 _ rfl
  have s1 := extG_box (w := w) (t := 38) #[.int .i64 x, .int .i64 y, .int .i64 d, .int .i64 e] 1 _ rfl
  have s2 := extG_box (w := w) (t := 38) #[.int .i64 x, .int .i64 y, .int .i64 d, .int .i64 e] 2 _ rfl
  have s3 := extG_box (w := w) (t := 38) #[.int .i64 x, .int .i64 y, .int .i64 d, .int .i64 e] 3 _ rfl
  refine wp_region_extG (by kernel_rfl) (by kernel_rfl) ?_
  repeat (go_big_quiet_step (first | (go_at_call 43; exact extG_grows (degreeG _ _ _ _ _ HK.out)) | (go_at_call 69; exact extG_grows (rankLexG _ _ _ _ _ HK.out))))
  refine wpQuiet_nil ?_
  rintro _ ⟨u, rfl⟩
  go_wp2
  go_ret
  exact ⟨rfl, B1.out.trans u.2⟩
end Go.Proofs.Ytioecpiogpjlaaa
