/-
  How often less than 0: the number of a turned term, the program and the model.
-/
import Derived.Test.YtahbekfhoidgjawMapEach
import Derived.Deep.RegionHeld3
namespace Go.Proofs.Ytahbekfhoidgjaw
open Go.RowKit Go.Maps
set_option linter.unusedVariables false

def sgn (n : Int) : Int := if n % 2 = 0 then 1 else 100
theorem sgn_range (n : Int) : 0 ≤ sgn n ∧ sgn n ≤ 100 := by unfold sgn; split <;> omega
theorem pw_sgn : ∀ n : Nat, pw 100 n = sgn (n : Int)
  | 0 => rfl
  | n + 1 => by
    rw [pw, pw_sgn n]
    unfold sgn
    split <;> split <;> omega
/-- the number of a turned term. -/
def sg (t : T) (n : Int) : Int := t.c * sgn n % 101
theorem sg_range (t : T) (n : Int) : 0 ≤ sg t n ∧ sg t n ≤ 100 := by unfold sg; omega
theorem sg_pos {t : T} {n : Int} (h : 1 ≤ t.c) (h' : t.c ≤ 100) : 1 ≤ sg t n := by
  unfold sg sgn
  split <;> omega
/-- the cells of a term, in a box. -/
abbrev B5 (b : Nat) (t : T) (u : World) : Prop := u.cell? ⟨b, 0, none⟩ = some (.int .i64 t.c) ∧ u.cell? ⟨b, 1, none⟩ = some (.int .i64 t.m.x) ∧ u.cell? ⟨b, 2, none⟩ = some (.int .i64 t.m.y) ∧ u.cell? ⟨b, 3, none⟩ = some (.int .i64 t.m.d) ∧ u.cell? ⟨b, 4, none⟩ = some (.int .i64 t.m.e)
theorem B5.below {b : Nat} {t : T} {u u' : World} (h : B5 b t u) (hb : Below u.heap.size u u') (h2 : b < u.heap.size) : B5 b t u' :=
  ⟨(hb.cell (p := ⟨b, 0, none⟩) h2).trans h.1, (hb.cell (p := ⟨b, 1, none⟩) h2).trans h.2.1, (hb.cell (p := ⟨b, 2, none⟩) h2).trans h.2.2.1, (hb.cell (p := ⟨b, 3, none⟩) h2).trans h.2.2.2.1, (hb.cell (p := ⟨b, 4, none⟩) h2).trans h.2.2.2.2⟩
theorem B5.lt {b : Nat} {t : T} {u : World} (h : B5 b t u) : b < u.heap.size := World.block_lt_of_cell? u ⟨b, 0, none⟩ h.1
theorem B5.box (w : World) (t : T) : B5 w.heap.size t (w.alloc (.cells #[.int .i64 t.c, .int .i64 t.m.x, .int .i64 t.m.y, .int .i64 t.m.d, .int .i64 t.m.e] 40)) := by
  refine ⟨?_, ?_, ?_, ?_, ?_⟩ <;> (rw [World.cell?_alloc_at _ _ _ _ rfl]; rfl)
theorem B5.far {w : World} {b o b' o' : Nat} {v : Value} (h : b' ≠ b) : (w.setCell ⟨b, o, none⟩ v).cell? ⟨b', o', none⟩ = w.cell? ⟨b', o', none⟩ := World.cell?_of_block (w := w) (Below.heap_setCell _ _ _ _ h)
theorem B5.set {b g o : Nat} {t : T} {u : World} (h : B5 b t u) (hg : b ≠ g) (v : Value) : B5 b t (u.setCell ⟨g, o, none⟩ v) :=
  ⟨(B5.far hg).trans h.1, (B5.far hg).trans h.2.1, (B5.far hg).trans h.2.2.1, (B5.far hg).trans h.2.2.2.1, (B5.far hg).trans h.2.2.2.2⟩
theorem B5.alloc {b : Nat} {t : T} {u : World} (h : B5 b t u) (o : Obj) : B5 b t (u.alloc o) := h.below (bel_one u o) h.lt
theorem B5.set5 {b g : Nat} {t : T} {u : World} (h : B5 b t u) (hg : b ≠ g) (v0 v1 v2 v3 v4 : Value) : B5 b t (((((u.setCell ⟨g, 0, none⟩ v0).setCell ⟨g, 1, none⟩ v1).setCell ⟨g, 2, none⟩ v2).setCell ⟨g, 3, none⟩ v3).setCell ⟨g, 4, none⟩ v4) :=
  ((((h.set hg v0).set hg v1).set hg v2).set hg v3).set hg v4
set_option maxHeartbeats 1000000 in
theorem mapNumberI (t : T) (n : Int) (w : World) (h0 : 0 ≤ t.c) (h1 : t.c ≤ 100) (n0 : 0 ≤ n) (n1 : n ≤ 1000) :
    Calls Try.prog 39 #[.agg #[.int .i64 t.c, .int .i64 t.m.x, .int .i64 t.m.y, .int .i64 t.m.d, .int .i64 t.m.e], .int .i64 n] w fun e w' => e = .returned (.int .i64 (sg t n)) ∧ Below w.heap.size w w' := by
  have hp : ∀ u : World, Calls Try.prog 50 #[.int .i64 100, .int .i64 n] u fun e w' => e = .returned (.int .i64 (sgn n)) ∧ w' = u := fun u => by
    have := power 100 n u (by omega) (by omega) n0 n1
    rwa [pw_sgn, Int.toNat_of_nonneg n0] at this
  have hs := sgn_range n
  have ht : ∀ u : World, Calls Try.prog 25 #[.int .i64 t.c, .int .i64 (sgn n)] u fun e w' => e = .returned (.int .i64 (sg t n)) ∧ w' = u := fun u => times _ _ _ h0 h1 hs.1 hs.2
  obtain ⟨q0, q1, q2, q3, q4⟩ := B5.box w t
  have hb := bel_one w (.cells #[.int .i64 t.c, .int .i64 t.m.x, .int .i64 t.m.y, .int .i64 t.m.d, .int .i64 t.m.e] 40)
  clear hs
  go_enter Try.func39, Try.ntmps39
  go_wp2_with fail
  go_region_with (first | (go_at_call 50; refine (hp _).mono ?_; rintro e w' ⟨rfl, hw'⟩; obtain rfl := hw'.symm; clear hw') | (go_at_call 25; refine (ht _).mono ?_; rintro e w' ⟨rfl, hw'⟩; obtain rfl := hw'.symm; clear hw'))
  all_goals
    go_wp2
    go_ret
    exact ⟨rfl, hb.drew⟩
theorem l5SignS (n : Int) (w : World) (n0 : 0 ≤ n) (n1 : n ≤ 1000) :
    Calls Try.prog 36 #[.int .i64 n] w fun e w' => e = .returned (.int .i64 (sgn n)) ∧ w' = w := by
  have hm : n.tmod 2 = n % 2 := Int.tmod_eq_emod_of_nonneg n0
  by_cases h : n % 2 = 0
  · have hb : (n % 2 == 0) = true := by simp [h]
    have e1 : sgn n = 1 := if_pos h
    rw [e1]
    go_enter Try.func36, Try.ntmps36
    go_wp2
    go_ret
    exact ⟨rfl, rfl⟩
  · have hb : (n % 2 == 0) = false := by simp [h]
    have e1 : sgn n = 100 := if_neg h
    rw [e1]
    go_enter Try.func36, Try.ntmps36
    go_wp2
    go_ret
    exact ⟨rfl, rfl⟩
end Go.Proofs.Ytahbekfhoidgjaw
