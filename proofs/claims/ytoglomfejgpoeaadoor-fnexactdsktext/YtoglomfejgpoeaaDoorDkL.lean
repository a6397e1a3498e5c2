/-
  Lines that come in, are copied and are held against each other.
-/
import Derived.Test.YtoglomfejgpoeaaDoorDkA
import Derived.Test.YtoglomfejgpoeaaDoorExact
import Derived.Test.YtoglomfejgpoeaaDoorOpen
import Derived.Test.YtoglomfejgpoeaaDoorOpenM
import Derived.Lib.SmallJoins
import Derived.ProofKit
namespace Go.Proofs.YtoglomfejgpoeaaDoor
open Go.RowKit Go.Deep Go.Joins Go.WideShapes Go.ChangeShapes
set_option linter.unusedVariables false
set_option linter.unusedSimpArgs false
set_option maxRecDepth 100000 in
theorem line_open {H : Type} {enc : TypeId × Value → H} {w : World} {base : Nat} {spare : Nat → Bool} {held : Bool} {r : Reach} {b0 : Nat} {v : Value} {d : DataW H} {p : List MemPlace}
    (hv : Value.okWide Tryd.prog w r b0 24 v) (h : DataW.Trod enc Tryd.prog w base spare held 24 v d p) :
    ∃ (k to a b : Int) (pa : Option Addr) (n cap : Nat) (f : Nat → T), v = .agg #[.int .i64 k, .int .i64 to, .int .i64 a, .int .i64 b, .slice pa n cap] ∧ IsTerms w pa n cap f := by
  have hs := Tryd.underlying24
  obtain ⟨cs, rfl, hsz⟩ := okWide_struct hs hv
  have hC : Tryd.prog.cellsOf 24 = 5 := by kernel_rfl
  rw [hC] at hsz
  obtain ⟨c0, c1, c2, c3, c4, rfl⟩ : ∃ c0 c1 c2 c3 c4, cs = #[c0, c1, c2, c3, c4] := by
    obtain ⟨l⟩ := cs
    match l, hsz with
    | [c0, c1, c2, c3, c4], _ => exact ⟨c0, c1, c2, c3, c4, rfl⟩
  obtain ⟨fuel, hf⟩ := h
  obtain ⟨xs, m, _, hx, hl, hlen, hg⟩ := DataW.trod_struct hs hf
  match xs, hlen with
  | [y0, y1, y2, y3, y4], _ =>
    have g0 := hg 0 _ rfl
    have g1 := hg 1 _ rfl
    have g2 := hg 2 _ rfl
    have g3 := hg 3 _ rfl
    have g4 := hg 4 _ rfl
    have cI : Tryd.prog.cellsOf 3 = 1 := by kernel_rfl
    have cS : Tryd.prog.cellsOf 22 = 1 := by kernel_rfl
    simp [Value.cells, cI, cS] at g0 g1 g2 g3 g4
    obtain ⟨z0, e0, _, _⟩ := DataW.trod_int Tryd.underlying3 g0
    obtain ⟨z1, e1, _, _⟩ := DataW.trod_int Tryd.underlying3 g1
    obtain ⟨z2, e2, _, _⟩ := DataW.trod_int Tryd.underlying3 g2
    obtain ⟨z3, e3, _, _⟩ := DataW.trod_int Tryd.underlying3 g3
    simp at e0 e1 e2 e3
    subst e0 e1 e2 e3
    have g4' := g4
    rcases open_slice Tryd.underlying22 g4 with ⟨hc, _⟩ | ⟨ad, len, cp, m', k', D, Pl, hc, _⟩
    · simp at hc
      subst hc
      obtain ⟨f, hf⟩ := terms_open g4'
      exact ⟨z0, z1, z2, z3, none, 0, 0, f, rfl, hf⟩
    · simp at hc
      subst hc
      obtain ⟨f, hf⟩ := terms_open g4'
      exact ⟨z0, z1, z2, z3, some ad, len, cp, f, rfl, hf⟩
theorem cells5 {W : World} {b : Nat} {c0 c1 c2 c3 c4 : Value} {t : TypeId} (h : W.heap[b]? = some (.cells #[c0, c1, c2, c3, c4] t (0, 0))) : (W.cell? ⟨b, 0, none⟩ = some c0 ∧ W.cell? ⟨b, 1, none⟩ = some c1 ∧ W.cell? ⟨b, 2, none⟩ = some c2 ∧ W.cell? ⟨b, 3, none⟩ = some c3 ∧ W.cell? ⟨b, 4, none⟩ = some c4) ∧ ∀ j, W.frozen? ⟨b, j, none⟩ = false :=
  ⟨⟨cell_of_row W b 0 _ _ _ h, cell_of_row W b 1 _ _ _ h, cell_of_row W b 2 _ _ _ h, cell_of_row W b 3 _ _ _ h, cell_of_row W b 4 _ _ _ h⟩, fun j => by simp [World.frozen?, h]⟩
set_option maxRecDepth 100000 in
set_option maxHeartbeats 2000000 in
theorem toLine (k to a b : Int) (pa : Option Addr) (n cap : Nat) (f : Nat → T) (w : World) (h : Rd w pa n cap f) :
    Calls Tryd.prog 6 #[.agg #[.int .i64 k, .int .i64 to, .int .i64 a, .int .i64 b, .slice pa n cap]] w fun r w' => ∃ g, r = .returned (.agg #[.int .i64 k, .int .i64 to, .int .i64 a, .int .i64 b, .slice (some ⟨g, 0, none⟩) n n]) ∧ Below w.heap.size w w' ∧ Own w' g n f := by
  have HH := Hid.mk' h
  clear h
  go_enter Tryd.func6, Tryd.ntmps6
  go_wp2_with fail
  have hbX := bel_three w (.cells #[.int .i64 k, .int .i64 to, .int .i64 a, .int .i64 b, .slice pa n cap] 24) (.cells #[.int .i64 0, .int .i64 0, .int .i64 0, .int .i64 0, .slice none 0 0] 29) (.cells #[.int .i64 k, .int .i64 to, .int .i64 a, .int .i64 b, .slice none 0 0] 29)
  have h2X : (((w.alloc (.cells #[.int .i64 k, .int .i64 to, .int .i64 a, .int .i64 b, .slice pa n cap] 24)).alloc (.cells #[.int .i64 0, .int .i64 0, .int .i64 0, .int .i64 0, .slice none 0 0] 29)).alloc (.cells #[.int .i64 k, .int .i64 to, .int .i64 a, .int .i64 b, .slice none 0 0] 29)).heap[w.heap.size + 1]? = some (.cells #[.int .i64 0, .int .i64 0, .int .i64 0, .int .i64 0, .slice none 0 0] 29 (0, 0)) := by
    rw [Below.heap_alloc _ _ _ (by simp)]
    have := heap_alloc_new (w.alloc (.cells #[.int .i64 k, .int .i64 to, .int .i64 a, .int .i64 b, .slice pa n cap] 24)) (.cells #[.int .i64 0, .int .i64 0, .int .i64 0, .int .i64 0, .slice none 0 0] 29)
    rwa [World.size_alloc] at this
  have h3X : (((w.alloc (.cells #[.int .i64 k, .int .i64 to, .int .i64 a, .int .i64 b, .slice pa n cap] 24)).alloc (.cells #[.int .i64 0, .int .i64 0, .int .i64 0, .int .i64 0, .slice none 0 0] 29)).alloc (.cells #[.int .i64 k, .int .i64 to, .int .i64 a, .int .i64 b, .slice none 0 0] 29)).heap[w.heap.size + 1 + 1]? = some (.cells #[.int .i64 k, .int .i64 to, .int .i64 a, .int .i64 b, .slice none 0 0] 29 (0, 0)) := by
    have := heap_alloc_new ((w.alloc (.cells #[.int .i64 k, .int .i64 to, .int .i64 a, .int .i64 b, .slice pa n cap] 24)).alloc (.cells #[.int .i64 0, .int .i64 0, .int .i64 0, .int .i64 0, .slice none 0 0] 29)) (.cells #[.int .i64 k, .int .i64 to, .int .i64 a, .int .i64 b, .slice none 0 0] 29)
    rwa [World.size_alloc, World.size_alloc] at this
  have hsX : (((w.alloc (.cells #[.int .i64 k, .int .i64 to, .int .i64 a, .int .i64 b, .slice pa n cap] 24)).alloc (.cells #[.int .i64 0, .int .i64 0, .int .i64 0, .int .i64 0, .slice none 0 0] 29)).alloc (.cells #[.int .i64 k, .int .i64 to, .int .i64 a, .int .i64 b, .slice none 0 0] 29)).heap.size = w.heap.size + 3 := by simp
  generalize (((w.alloc (.cells #[.int .i64 k, .int .i64 to, .int .i64 a, .int .i64 b, .slice pa n cap] 24)).alloc (.cells #[.int .i64 0, .int .i64 0, .int .i64 0, .int .i64 0, .slice none 0 0] 29)).alloc (.cells #[.int .i64 k, .int .i64 to, .int .i64 a, .int .i64 b, .slice none 0 0] 29)) = X at hbX h2X h3X hsX ⊢
  refine (toTerms _ _ _ _ f (HH.out.below hbX)).mono ?_
  rintro e w1 ⟨rfl, hb, ho⟩
  obtain ⟨g, hg⟩ : ∃ g, X.heap.size = g := ⟨_, rfl⟩
  have hgl : w.heap.size + 3 ≤ g := by omega
  rw [hg] at ho ⊢
  obtain ⟨⟨r0, r1, r2, r3, r4⟩, rz⟩ := cells5 ((hb.block _ (by omega)).trans h2X)
  obtain ⟨⟨x0, x1, x2, x3, x4⟩, xz⟩ := cells5 ((hb.block _ (by omega)).trans h3X)
  have HB := Hid.mk' (bel_next hbX hb)
  have HO := Hid.mk' ho
  have hn1 : w.heap.size + 1 ≠ w.heap.size + 1 + 1 := by omega
  have hn2 : w.heap.size + 1 + 1 ≠ w.heap.size + 1 := by omega
  have hg1 : g ≠ w.heap.size + 1 := by omega
  have hg2 : g ≠ w.heap.size + 1 + 1 := by omega
  clear hb ho hbX h2X h3X hsX hg
  go_wp2
  refine bodyPost_ret (v := .agg #[.int .i64 k, .int .i64 to, .int .i64 a, .int .i64 b, .slice (some ⟨g, 0, none⟩) n n]) (by simp [results, Tryd.results6, go_sem, *]) rfl ?_
  refine ⟨g, rfl, ?_, ?_⟩
  · first
      | exact bel_s5 (HB.out.setCell (p := ⟨w.heap.size + 1 + 1, 4, none⟩) (by show w.heap.size ≤ w.heap.size + 1 + 1; omega) _) (by omega) _ _ _ _ _
      | exact (bel_s5 HB.out (by omega) _ _ _ _ _).setCell (p := ⟨w.heap.size + 1 + 1, 4, none⟩) (by show w.heap.size ≤ w.heap.size + 1 + 1; omega) _
  · refine HO.out.of_block ?_
    repeat (first | rw [Below.heap_setCell _ _ _ _ hg1] | rw [Below.heap_setCell _ _ _ _ hg2])
set_option maxHeartbeats 1000000 in
theorem szLine (k to a b : Int) (pa : Option Addr) (n cap : Nat) (l : Int) (w : World) (hn : (n : Int) ≤ 9223372036854775807) (hl : 0 ≤ l) (hl' : l ≤ 1048576) :
    Calls Tryd.prog 4 #[.agg #[.int .i64 k, .int .i64 to, .int .i64 a, .int .i64 b, .slice pa n cap], .int .i64 l] w fun r w' => r = .returned (.int .i64 (if l - n < 0 then -1 else l - n)) ∧ Below w.heap.size w w' := by
  have hb0 := bel_one w (.cells #[.int .i64 k, .int .i64 to, .int .i64 a, .int .i64 b, .slice pa n cap] 24)
  have HB0 := Hid.mk' hb0
  clear hb0
  by_cases h : l - n < 0
  · go_enter Tryd.func4, Tryd.ntmps4
    go_wp2_with fail
    refine (szTerms _ _ _ _ _ hn hl hl').mono ?_
    rw [if_pos h]
    rintro e w' ⟨rfl, hw'⟩
    obtain rfl := hw'.symm
    clear hw'
    go_wp2
    go_ret
    exact ⟨by first | rfl | (rw [if_pos h]; rfl), HB0.out⟩
  · have h1 : ¬ (l - n < 0) := h
    go_enter Tryd.func4, Tryd.ntmps4
    go_wp2_with fail
    refine (szTerms _ _ _ _ _ hn hl hl').mono ?_
    rw [if_neg (by omega)]
    rintro e w' ⟨rfl, hw'⟩
    obtain rfl := hw'.symm
    clear hw'
    go_wp2
    go_ret
    exact ⟨by first | rfl | (rw [if_neg (by omega)]; rfl), HB0.out⟩
set_option maxRecDepth 100000 in
set_option maxHeartbeats 2000000 in
theorem eqLine (k to a b : Int) (pa pa' : Option Addr) (n cap cap' : Nat) (f : Nat → T) (w : World) (h : Rd w pa n cap f) (h' : Rd w pa' n cap' f) :
    Calls Tryd.prog 8 #[.agg #[.int .i64 k, .int .i64 to, .int .i64 a, .int .i64 b, .slice pa n cap], .agg #[.int .i64 k, .int .i64 to, .int .i64 a, .int .i64 b, .slice pa' n cap']] w fun r w' => r = .returned (.bool true) ∧ Below w.heap.size w w' := by
  have hb0 := bel_two w (.cells #[.int .i64 k, .int .i64 to, .int .i64 a, .int .i64 b, .slice pa n cap] 29) (.cells #[.int .i64 k, .int .i64 to, .int .i64 a, .int .i64 b, .slice pa' n cap'] 29)
  have HC := Hid.mk' (eqTerms _ _ _ _ _ _ _ _ _ (h.below hb0) (h'.below hb0))
  rw [termsEq_same] at HC
  have HB0 := Hid.mk' hb0
  clear hb0 h h'
  go_enter Tryd.func8, Tryd.ntmps8
  go_wp2_with fail
  refine HC.out.mono ?_
  rintro r w1 ⟨rfl, hb1⟩
  have HB1 := Hid.mk' (bel_next HB0.out hb1)
  clear hb1
  go_wp2
  go_ret
  exact ⟨rfl, HB1.out⟩
end Go.Proofs.YtoglomfejgpoeaaDoor
