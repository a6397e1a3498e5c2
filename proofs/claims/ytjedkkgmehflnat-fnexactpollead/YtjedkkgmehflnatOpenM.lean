/-
  Monomials that come in, are copied and are held against each other.
-/
import Derived.Test.YtjedkkgmehflnatMono
import Derived.ProofKit
import Derived.Lib.SmallJoins
namespace Go.Proofs.Ytjedkkgmehflnat
open Go.RowKit Go.Deep Go.Joins
set_option linter.unusedVariables false

set_option maxRecDepth 100000 in
theorem mon_open {H : Type} {enc : TypeId × Value → H} {w : World} {base : Nat} {spare : Nat → Bool} {held : Bool} {r : Reach} {b0 : Nat} {v : Value} {d : DataW H} {p : List MemPlace}
    (hv : Value.okWide Try.prog w r b0 41 v) (h : DataW.Trod enc Try.prog w base spare held 41 v d p) : ∃ x y z u : Int, v = .agg #[.int .i64 x, .int .i64 y, .int .i64 z, .int .i64 u] := by
  obtain ⟨v0, v1, v2, v3, y0, y1, y2, y3, n, rfl, _, _, h0, h1, h2, h3⟩ := open_agg4 Try.underlying41 (by kernel_rfl) (by kernel_rfl) hv h
  obtain ⟨z0, e0, _, _⟩ := DataW.trod_int Try.underlying3 h0
  obtain ⟨z1, e1, _, _⟩ := DataW.trod_int Try.underlying3 h1
  obtain ⟨z2, e2, _, _⟩ := DataW.trod_int Try.underlying3 h2
  obtain ⟨z3, e3, _, _⟩ := DataW.trod_int Try.underlying3 h3
  simp at e0 e1 e2 e3
  subst e0 e1 e2 e3
  exact ⟨z0, z1, z2, z3, rfl⟩
/-- the four cells of a monomial. -/
def M4 (w : World) (b : Nat) (x y d e : Int) : Prop :=
  w.cell? ⟨b, 0, none⟩ = some (.int .i64 x) ∧ w.cell? ⟨b, 1, none⟩ = some (.int .i64 y) ∧ w.cell? ⟨b, 2, none⟩ = some (.int .i64 d) ∧ w.cell? ⟨b, 3, none⟩ = some (.int .i64 e)
theorem M4.lt {w : World} {b : Nat} {x y d e : Int} (h : M4 w b x y d e) : b < w.heap.size := World.block_lt_of_cell? w _ h.1
theorem M4.below {w w' : World} {b : Nat} {x y d e : Int} (h : M4 w b x y d e) (hb : Below w.heap.size w w') : M4 w' b x y d e :=
  ⟨(hb.cell (p := ⟨b, 0, none⟩) h.lt).trans h.1, (hb.cell (p := ⟨b, 1, none⟩) h.lt).trans h.2.1, (hb.cell (p := ⟨b, 2, none⟩) h.lt).trans h.2.2.1, (hb.cell (p := ⟨b, 3, none⟩) h.lt).trans h.2.2.2⟩
theorem M4.box (w : World) (t : TypeId) (x y d e : Int) : M4 (w.alloc (.cells #[.int .i64 x, .int .i64 y, .int .i64 d, .int .i64 e] t)) w.heap.size x y d e :=
  ⟨by rw [World.cell?_alloc_at _ _ _ _ rfl]; rfl, by rw [World.cell?_alloc_at _ _ _ _ rfl]; rfl, by rw [World.cell?_alloc_at _ _ _ _ rfl]; rfl, by rw [World.cell?_alloc_at _ _ _ _ rfl]; rfl⟩
theorem M4.drew' {w : World} {b : Nat} {x y d e : Int} (h : M4 w b x y d e) : M4 w.drew b x y d e := h.below (Below.refl _ _).drew
theorem s4_drew {w : World} {b : Nat} {x y d e : Int} (h : M4 w b x y d e) : M4 w.drew b x y d e := h.drew'
theorem s4_below {w w' : World} {b : Nat} {x y d e : Int} (hb : Below w.heap.size w w') (h : M4 w b x y d e) : M4 w' b x y d e := h.below hb
theorem M4.grown {w w' : World} {b : Nat} {x y d e : Int} {row : Option Nat} (h : M4 w b x y d e) (hg : w.grownBy w' row) (hne : some b ≠ row) : M4 w' b x y d e := by
  have he := hg.block b h.lt hne
  exact ⟨(World.cell?_of_block (w := w) (a := ⟨b, 0, none⟩) he).trans h.1, (World.cell?_of_block (w := w) (a := ⟨b, 1, none⟩) he).trans h.2.1, (World.cell?_of_block (w := w) (a := ⟨b, 2, none⟩) he).trans h.2.2.1, (World.cell?_of_block (w := w) (a := ⟨b, 3, none⟩) he).trans h.2.2.2⟩
theorem M4.alloc {w : World} {b : Nat} {x y d e : Int} (h : M4 w b x y d e) (o : Obj) : M4 (w.alloc o) b x y d e := h.below ((Below.refl _ _).alloc (Nat.le_refl _) _)
set_option maxHeartbeats 400000 in
theorem toMon (x y d e : Int) (w : World) :
    Calls Try.prog 31 #[.agg #[.int .i64 x, .int .i64 y, .int .i64 d, .int .i64 e]] w fun r w' => r = .returned (.agg #[.int .i64 x, .int .i64 y, .int .i64 d, .int .i64 e]) ∧ Below w.heap.size w w' := by
  go_enter Try.func31, Try.ntmps31
  go_wp2
  refine bodyPost_ret (v := .agg #[.int .i64 x, .int .i64 y, .int .i64 d, .int .i64 e]) (by simp [results, Try.results31, go_sem]) rfl ⟨rfl, ?_⟩
  exact bel_three w _ _ _
def M.eqB (a b : M) : Bool := decide (a.x = b.x ∧ a.y = b.y ∧ a.d = b.d ∧ a.e = b.e)
theorem M.eqB_iff {a b : M} : a.eqB b = true ↔ a = b := by
  cases a; cases b; simp [M.eqB]
theorem M.eqB_same (x y d e : Int) : M.eqB ⟨x, y, d, e⟩ ⟨x, y, d, e⟩ = true := by simp [M.eqB]
set_option maxHeartbeats 400000 in
theorem eqMon (x y d e x' y' d' e' : Int) (w : World) :
    Calls Try.prog 28 #[.agg #[.int .i64 x, .int .i64 y, .int .i64 d, .int .i64 e], .agg #[.int .i64 x', .int .i64 y', .int .i64 d', .int .i64 e']] w fun r w' => r = .returned (.bool (M.eqB ⟨x, y, d, e⟩ ⟨x', y', d', e'⟩)) ∧ Below w.heap.size w w' := by
  cases hx : (x != x')
  · cases hy : (y != y')
    · cases hd : (d != d')
      · cases he : (e != e')
        · have r1 : M.eqB ⟨x, y, d, e⟩ ⟨x', y', d', e'⟩ = true := by simp at hx hy hd he; simp [M.eqB, *]
          rw [r1]
          go_enter Try.func28, Try.ntmps28
          go_wp2
          go_ret
          exact ⟨rfl, bel_two w _ _⟩
        · have r1 : M.eqB ⟨x, y, d, e⟩ ⟨x', y', d', e'⟩ = false := by simp at he; simp [M.eqB, *]
          rw [r1]
          go_enter Try.func28, Try.ntmps28
          go_wp2
          go_ret
          exact ⟨rfl, bel_two w _ _⟩
      · have r1 : M.eqB ⟨x, y, d, e⟩ ⟨x', y', d', e'⟩ = false := by simp at hd; simp [M.eqB, *]
        rw [r1]
        go_enter Try.func28, Try.ntmps28
        go_wp2
        go_ret
        exact ⟨rfl, bel_two w _ _⟩
    · have r1 : M.eqB ⟨x, y, d, e⟩ ⟨x', y', d', e'⟩ = false := by simp at hy; simp [M.eqB, *]
      rw [r1]
      go_enter Try.func28, Try.ntmps28
      go_wp2
      go_ret
      exact ⟨rfl, bel_two w _ _⟩
  · have r1 : M.eqB ⟨x, y, d, e⟩ ⟨x', y', d', e'⟩ = false := by simp at hx; simp [M.eqB, *]
    rw [r1]
    go_enter Try.func28, Try.ntmps28
    go_wp2
    go_ret
    exact ⟨rfl, bel_two w _ _⟩
end Go.Proofs.Ytjedkkgmehflnat
