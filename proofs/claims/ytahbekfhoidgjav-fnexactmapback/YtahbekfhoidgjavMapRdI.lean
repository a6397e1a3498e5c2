/-
  Turning an operator round, and back: the program.
-/
import Derived.Test.YtahbekfhoidgjavMapEach
import Derived.Test.YtahbekfhoidgjavAddProd
import Derived.Deep.RegionHeld3
namespace Go.Proofs.Ytahbekfhoidgjav
open Go.RowKit Go.Maps
set_option linter.unusedVariables false


def sgn (n : Int) : Int := if n % 2 = 0 then 1 else 100
theorem sgn_range (n : Int) : 0 ≤ sgn n ∧ sgn n ≤ 100 := by unfold sgn; split <;> omega
theorem pw_sgn : ∀ n : Nat, pw 100 n = sgn (n : Int)
  | 0 => rfl
  | n + 1 => by
    rw [pw, pw_sgn n]
    unfold sgn
    split <;> split <;> omega
/-- the number of a turned term. -/
def sg (t : T) (n : Int) : Int := t.c * sgn n % 101
theorem sg_range (t : T) (n : Int) : 0 ≤ sg t n ∧ sg t n ≤ 100 := by unfold sg; omega
theorem sg_pos {t : T} {n : Int} (h : 1 ≤ t.c) (h' : t.c ≤ 100) : 1 ≤ sg t n := by
  unfold sg sgn
  split <;> omega
/-- the cells of a term, in a box. -/
abbrev B5 (b : Nat) (t : T) (u : World) : Prop := u.cell? ⟨b, 0, none⟩ = some (.int .i64 t.c) ∧ u.cell? ⟨b, 1, none⟩ = some (.int .i64 t.m.x) ∧ u.cell? ⟨b, 2, none⟩ = some (.int .i64 t.m.y) ∧ u.cell? ⟨b, 3, none⟩ = some (.int .i64 t.m.d) ∧ u.cell? ⟨b, 4, none⟩ = some (.int .i64 t.m.e)
theorem B5.below {b : Nat} {t : T} {u u' : World} (h : B5 b t u) (hb : Below u.heap.size u u') (h2 : b < u.heap.size) : B5 b t u' :=
  ⟨(hb.cell (p := ⟨b, 0, none⟩) h2).trans h.1, (hb.cell (p := ⟨b, 1, none⟩) h2).trans h.2.1, (hb.cell (p := ⟨b, 2, none⟩) h2).trans h.2.2.1, (hb.cell (p := ⟨b, 3, none⟩) h2).trans h.2.2.2.1, (hb.cell (p := ⟨b, 4, none⟩) h2).trans h.2.2.2.2⟩
theorem B5.lt {b : Nat} {t : T} {u : World} (h : B5 b t u) : b < u.heap.size := World.block_lt_of_cell? u ⟨b, 0, none⟩ h.1
theorem B5.box (w : World) (t : T) : B5 w.heap.size t (w.alloc (.cells #[.int .i64 t.c, .int .i64 t.m.x, .int .i64 t.m.y, .int .i64 t.m.d, .int .i64 t.m.e] 42)) := by
  refine ⟨?_, ?_, ?_, ?_, ?_⟩ <;> (rw [World.cell?_alloc_at _ _ _ _ rfl]; rfl)
theorem B5.far {w : World} {b o b' o' : Nat} {v : Value} (h : b' ≠ b) : (w.setCell ⟨b, o, none⟩ v).cell? ⟨b', o', none⟩ = w.cell? ⟨b', o', none⟩ := World.cell?_of_block (w := w) (Below.heap_setCell _ _ _ _ h)
theorem B5.set {b g o : Nat} {t : T} {u : World} (h : B5 b t u) (hg : b ≠ g) (v : Value) : B5 b t (u.setCell ⟨g, o, none⟩ v) :=
  ⟨(B5.far hg).trans h.1, (B5.far hg).trans h.2.1, (B5.far hg).trans h.2.2.1, (B5.far hg).trans h.2.2.2.1, (B5.far hg).trans h.2.2.2.2⟩
theorem B5.alloc {b : Nat} {t : T} {u : World} (h : B5 b t u) (o : Obj) : B5 b t (u.alloc o) := h.below (bel_one u o) h.lt
theorem B5.set5 {b g : Nat} {t : T} {u : World} (h : B5 b t u) (hg : b ≠ g) (v0 v1 v2 v3 v4 : Value) : B5 b t (((((u.setCell ⟨g, 0, none⟩ v0).setCell ⟨g, 1, none⟩ v1).setCell ⟨g, 2, none⟩ v2).setCell ⟨g, 3, none⟩ v3).setCell ⟨g, 4, none⟩ v4) :=
  ((((h.set hg v0).set hg v1).set hg v2).set hg v3).set hg v4
set_option maxHeartbeats 1000000 in
theorem mapNumberI (t : T) (n : Int) (w : World) (h0 : 0 ≤ t.c) (h1 : t.c ≤ 100) (n0 : 0 ≤ n) (n1 : n ≤ 1000) :
    Calls Try.prog 53 #[.agg #[.int .i64 t.c, .int .i64 t.m.x, .int .i64 t.m.y, .int .i64 t.m.d, .int .i64 t.m.e], .int .i64 n] w fun e w' => e = .returned (.int .i64 (sg t n)) ∧ Below w.heap.size w w' := by
  have hp : ∀ u : World, Calls Try.prog 46 #[.int .i64 100, .int .i64 n] u fun e w' => e = .returned (.int .i64 (sgn n)) ∧ w' = u := fun u => by
    have := power 100 n u (by omega) (by omega) n0 n1
    rwa [pw_sgn, Int.toNat_of_nonneg n0] at this
  have hs := sgn_range n
  have ht : ∀ u : World, Calls Try.prog 47 #[.int .i64 t.c, .int .i64 (sgn n)] u fun e w' => e = .returned (.int .i64 (sg t n)) ∧ w' = u := fun u => times _ _ _ h0 h1 hs.1 hs.2
  obtain ⟨q0, q1, q2, q3, q4⟩ := B5.box w t
  have hb := bel_one w (.cells #[.int .i64 t.c, .int .i64 t.m.x, .int .i64 t.m.y, .int .i64 t.m.d, .int .i64 t.m.e] 42)
  clear hs
  go_enter Try.func53, Try.ntmps53
  go_wp2_with fail
  go_region_with (first | (go_at_call 46; refine (hp _).mono ?_; rintro e w' ⟨rfl, hw'⟩; obtain rfl := hw'.symm; clear hw') | (go_at_call 47; refine (ht _).mono ?_; rintro e w' ⟨rfl, hw'⟩; obtain rfl := hw'.symm; clear hw'))
  all_goals
    go_wp2
    go_ret
    exact ⟨rfl, hb.drew⟩
theorem l5SignS (n : Int) (w : World) (n0 : 0 ≤ n) (n1 : n ≤ 1000) :
    Calls Try.prog 50 #[.int .i64 n] w fun e w' => e = .returned (.int .i64 (sgn n)) ∧ w' = w := by
  have hm : n.tmod 2 = n % 2 := Int.tmod_eq_emod_of_nonneg n0
  by_cases h : n % 2 = 0
  · have hb : (n % 2 == 0) = true := by simp [h]
    have e1 : sgn n = 1 := if_pos h
    rw [e1]
    go_enter Try.func50, Try.ntmps50
    go_wp2
    go_ret
    exact ⟨rfl, rfl⟩
  · have hb : (n % 2 == 0) = false := by simp [h]
    have e1 : sgn n = 100 := if_neg h
    rw [e1]
    go_enter Try.func50, Try.ntmps50
    go_wp2
    go_ret
    exact ⟨rfl, rfl⟩
def rndA (t : T) : T := ⟨sg t (t.m.d + t.m.e), ⟨0, 0, t.m.x, t.m.y⟩⟩
def rndB (t : T) : T := ⟨1, ⟨t.m.d, t.m.e, 0, 0⟩⟩
theorem rnd_ok {t : T} (h : t.m.ok = true) : (rndA t).m.ok = true ∧ (rndB t).m.ok = true := by
  obtain ⟨x1, x2, y1, y2, d1, d2, e1, e2⟩ := M.ok_iff.1 h
  exact ⟨M.ok_iff.2 (by dsimp only [rndA]; omega), M.ok_iff.2 (by dsimp only [rndB]; omega)⟩
def stMapRound (K : List T) (t : T) : Option (List T) := stepM K (rndA t) (rndB t)
set_option maxRecDepth 100000 in
set_option maxHeartbeats 4000000 in
theorem rndTurns : Turns 52 #[] stMapRound (fun _ => True) := by
  intro W b c K t hS hK hKc hl ht _
  obtain ⟨o1, o2⟩ := rnd_ok ht.1
  have hdb := M.ok_iff.1 ht.1
  have hcr := hS.range
  have hsr := sg_range t (t.m.d + t.m.e)
  have hwr : IntKind.i64.wrap (t.m.d + t.m.e) = t.m.d + t.m.e := by rw [IntKind.wrap_i64]; omega
  have hnum : ∀ u : World, Calls Try.prog 53 #[.agg #[.int .i64 t.c, .int .i64 t.m.x, .int .i64 t.m.y, .int .i64 t.m.d, .int .i64 t.m.e], .int .i64 (t.m.d + t.m.e)] u fun e w' => e = .returned (.int .i64 (sg t (t.m.d + t.m.e))) ∧ Below u.heap.size u w' := fun u => mapNumberI t _ u (by omega) ht.2.2 (by omega) (by omega)
  have hbox : B5 W.heap.size t (W.alloc (.cells #[.int .i64 t.c, .int .i64 t.m.x, .int .i64 t.m.y, .int .i64 t.m.d, .int .i64 t.m.e] 42)).drew := B5.box W t
  have hB0 : Below W.heap.size W (W.alloc (.cells #[.int .i64 t.c, .int .i64 t.m.x, .int .i64 t.m.y, .int .i64 t.m.d, .int .i64 t.m.e] 42)).drew := (bel_one W (.cells #[.int .i64 t.c, .int .i64 t.m.x, .int .i64 t.m.y, .int .i64 t.m.d, .int .i64 t.m.e] 42)).drew
  have hs0 : (W.alloc (.cells #[.int .i64 t.c, .int .i64 t.m.x, .int .i64 t.m.y, .int .i64 t.m.d, .int .i64 t.m.e] 42)).drew.heap.size = W.heap.size + 1 := by simp
  show Calls Try.prog 52 #[.map (some b), .agg #[.int .i64 t.c, .int .i64 t.m.x, .int .i64 t.m.y, .int .i64 t.m.d, .int .i64 t.m.e]] W _
  go_enter Try.func52, Try.ntmps52
  go_wp2_with fail
  go_region_held3 (fun u => u.cell? ⟨W.heap.size, 0, none⟩ = some (.int .i64 t.c) ∧ u.cell? ⟨W.heap.size, 1, none⟩ = some (.int .i64 t.m.x) ∧ u.cell? ⟨W.heap.size, 2, none⟩ = some (.int .i64 t.m.y) ∧ u.cell? ⟨W.heap.size, 3, none⟩ = some (.int .i64 t.m.d) ∧ u.cell? ⟨W.heap.size, 4, none⟩ = some (.int .i64 t.m.e)) (first | with_reducible exact hbox | with_reducible exact B5.below (b := W.heap.size) (t := t) (by assumption) (by assumption) (B5.lt (t := t) (by assumption)) | with_reducible exact B5.alloc (b := W.heap.size) (t := t) (by assumption) _ | with_reducible exact B5.set5 (b := W.heap.size) (t := t) (by assumption) (by simp) _ _ _ _ _ | go_keep) (first | (go_at_call 53; refine (hnum _).mono ?_; rintro e w1 ⟨rfl, hb1⟩; obtain ⟨hc1, hf1⟩ := bcell hb1))
  · have hsw := hb1.size
    have hA : B5 w1.heap.size (rndA t) (w1.alloc (.cells #[.int .i64 (sg t (t.m.d + t.m.e)), .int .i64 0, .int .i64 0, .int .i64 (t.m.x), .int .i64 (t.m.y)] 42)) := B5.box w1 (rndA t)
    have hB2 : Below W.heap.size W (w1.alloc (.cells #[.int .i64 (sg t (t.m.d + t.m.e)), .int .i64 0, .int .i64 0, .int .i64 (t.m.x), .int .i64 (t.m.y)] 42)) := (bel_next hB0 hb1).alloc (by omega) _
    clear hc1 hf1 hb1 hnum hbox hB0
    generalize w1.alloc (.cells #[.int .i64 (sg t (t.m.d + t.m.e)), .int .i64 0, .int .i64 0, .int .i64 (t.m.x), .int .i64 (t.m.y)] 42) = u2 at *
    generalize w1.heap.size = G at *
    clear hs0 hsw
    have hT : B5 W.heap.size t u2 := by assumption
    have hTl := hT.lt
    have hAl := hA.lt
    have hok : ((rndA t).m.sum (rndB t).m).ok = true := M.ok_iff.2 (by dsimp only [rndA, rndB, M.sum]; omega)
    have hTwo : Two (rndA t) (rndB t) ((rndA t).m.sum (rndB t).m) := Two.of o1 o2 hok hsr ⟨show (0 : Int) ≤ 1 by decide, show (1 : Int) ≤ 100 by decide⟩
    obtain ⟨nf, nc⟩ := addL_pair hTwo hK hcr hKc
    have hB3 : Below W.heap.size W (u2.alloc (.cells #[.int .i64 1, .int .i64 (t.m.d), .int .i64 (t.m.e), .int .i64 0, .int .i64 0] 42)) := hB2.alloc (by omega) _
    have hcall := addProdI (u2.alloc (.cells #[.int .i64 1, .int .i64 (t.m.d), .int .i64 (t.m.e), .int .i64 0, .int .i64 0] 42)) b c (hS.grown (grown_of_below hB3) (by simp)) (rndA t) (rndB t) hTwo nf nc
    have HB3 := Hid.mk' hB3
    have HST : Hid (stMapRound K t = if (addL K (pairL (rndA t) (rndB t))).length ≤ 400 then some (addL K (pairL (rndA t) (rndB t))) else none) := by
      show stepM K _ _ = _
      unfold stepM
      simp [hok]
    obtain ⟨t0, t1, t2, t3, t4⟩ := hT
    obtain ⟨a0, a1, a2, a3, a4⟩ := hA
    dsimp only [rndA] at a0 a1 a2 a3 a4
    clear hB2 hB3 hS
    go_wp2_with (go_at_call 54; refine hcall.mono ?_; rintro r w6 ⟨rfl, hs6, hg6⟩; have HS6 := Hid.mk' hs6; have HG6 := Hid.mk' hg6; clear hs6 hg6)
    go_ret
    refine ⟨(below_grown HB3.out (some b)).trans HG6.out, ?_⟩
    rw [HST.out]
    by_cases h4 : (addL K (pairL (rndA t) (rndB t))).length ≤ 400
    · exact .inl ⟨_, _, if_pos h4, by rw [decide_eq_true h4]; rfl, HS6.out, nf, nc⟩
    · exact .inr ⟨if_neg h4, by rw [decide_eq_false h4]; rfl⟩
  · have hsw := hb1.size
    have hA : B5 (W.heap.size + 1) (rndA t) (((((w1.setCell ⟨W.heap.size + 1, 0, none⟩ (.int .i64 (sg t (t.m.d + t.m.e)))).setCell ⟨W.heap.size + 1, 1, none⟩ (.int .i64 0)).setCell ⟨W.heap.size + 1, 2, none⟩ (.int .i64 0)).setCell ⟨W.heap.size + 1, 3, none⟩ (.int .i64 t.m.x)).setCell ⟨W.heap.size + 1, 4, none⟩ (.int .i64 t.m.y)) := by
      refine ⟨?_, ?_, ?_, ?_, ?_⟩ <;> go_simp <;> rfl
    have hB2 : Below W.heap.size W (((((w1.setCell ⟨W.heap.size + 1, 0, none⟩ (.int .i64 (sg t (t.m.d + t.m.e)))).setCell ⟨W.heap.size + 1, 1, none⟩ (.int .i64 0)).setCell ⟨W.heap.size + 1, 2, none⟩ (.int .i64 0)).setCell ⟨W.heap.size + 1, 3, none⟩ (.int .i64 t.m.x)).setCell ⟨W.heap.size + 1, 4, none⟩ (.int .i64 t.m.y)) := ((((((bel_next (hB0.alloc (by simp) (.cells #[.int .i64 0, .int .i64 0, .int .i64 0, .int .i64 0, .int .i64 0] 42)) hb1).setCell (by simp) _).setCell (by simp) _).setCell (by simp) _).setCell (by simp) _).setCell (by simp) _)
    clear hc1 hf1 hb1 hnum hbox hB0 hs0 hsw
    generalize (((((w1.setCell ⟨W.heap.size + 1, 0, none⟩ (.int .i64 (sg t (t.m.d + t.m.e)))).setCell ⟨W.heap.size + 1, 1, none⟩ (.int .i64 0)).setCell ⟨W.heap.size + 1, 2, none⟩ (.int .i64 0)).setCell ⟨W.heap.size + 1, 3, none⟩ (.int .i64 t.m.x)).setCell ⟨W.heap.size + 1, 4, none⟩ (.int .i64 t.m.y)) = u2 at *
    have hT : B5 W.heap.size t u2 := by assumption
    generalize hG : W.heap.size + 1 = G at *
    have hTl := hT.lt
    have hAl := hA.lt
    have hok : ((rndA t).m.sum (rndB t).m).ok = true := M.ok_iff.2 (by dsimp only [rndA, rndB, M.sum]; omega)
    have hTwo : Two (rndA t) (rndB t) ((rndA t).m.sum (rndB t).m) := Two.of o1 o2 hok hsr ⟨show (0 : Int) ≤ 1 by decide, show (1 : Int) ≤ 100 by decide⟩
    obtain ⟨nf, nc⟩ := addL_pair hTwo hK hcr hKc
    have hB3 : Below W.heap.size W (u2.alloc (.cells #[.int .i64 1, .int .i64 (t.m.d), .int .i64 (t.m.e), .int .i64 0, .int .i64 0] 42)) := hB2.alloc (by omega) _
    have hcall := addProdI (u2.alloc (.cells #[.int .i64 1, .int .i64 (t.m.d), .int .i64 (t.m.e), .int .i64 0, .int .i64 0] 42)) b c (hS.grown (grown_of_below hB3) (by simp)) (rndA t) (rndB t) hTwo nf nc
    have HB3 := Hid.mk' hB3
    have HST : Hid (stMapRound K t = if (addL K (pairL (rndA t) (rndB t))).length ≤ 400 then some (addL K (pairL (rndA t) (rndB t))) else none) := by
      show stepM K _ _ = _
      unfold stepM
      simp [hok]
    obtain ⟨t0, t1, t2, t3, t4⟩ := hT
    obtain ⟨a0, a1, a2, a3, a4⟩ := hA
    dsimp only [rndA] at a0 a1 a2 a3 a4
    clear hB2 hB3 hS
    go_wp2_with (go_at_call 54; refine hcall.mono ?_; rintro r w6 ⟨rfl, hs6, hg6⟩; have HS6 := Hid.mk' hs6; have HG6 := Hid.mk' hg6; clear hs6 hg6)
    go_ret
    refine ⟨(below_grown HB3.out (some b)).trans HG6.out, ?_⟩
    rw [HST.out]
    by_cases h4 : (addL K (pairL (rndA t) (rndB t))).length ≤ 400
    · exact .inl ⟨_, _, if_pos h4, by rw [decide_eq_true h4]; rfl, HS6.out, nf, nc⟩
    · exact .inr ⟨if_neg h4, by rw [decide_eq_false h4]; rfl⟩
def bckA (t : T) : T := ⟨sg t (t.m.d + t.m.e), ⟨0, 0, t.m.d, t.m.e⟩⟩
def bckB (t : T) : T := ⟨1, ⟨t.m.x, t.m.y, 0, 0⟩⟩
theorem bck_ok {t : T} (h : t.m.ok = true) : (bckA t).m.ok = true ∧ (bckB t).m.ok = true := by
  obtain ⟨x1, x2, y1, y2, d1, d2, e1, e2⟩ := M.ok_iff.1 h
  exact ⟨M.ok_iff.2 (by dsimp only [bckA]; omega), M.ok_iff.2 (by dsimp only [bckB]; omega)⟩
def stMapBack (K : List T) (t : T) : Option (List T) := stepM K (bckA t) (bckB t)
set_option maxRecDepth 100000 in
set_option maxHeartbeats 4000000 in
theorem bckTurns : Turns 55 #[] stMapBack (fun _ => True) := by
  intro W b c K t hS hK hKc hl ht _
  obtain ⟨o1, o2⟩ := bck_ok ht.1
  have hdb := M.ok_iff.1 ht.1
  have hcr := hS.range
  have hsr := sg_range t (t.m.d + t.m.e)
  have hwr : IntKind.i64.wrap (t.m.d + t.m.e) = t.m.d + t.m.e := by rw [IntKind.wrap_i64]; omega
  have hnum : ∀ u : World, Calls Try.prog 53 #[.agg #[.int .i64 t.c, .int .i64 t.m.x, .int .i64 t.m.y, .int .i64 t.m.d, .int .i64 t.m.e], .int .i64 (t.m.d + t.m.e)] u fun e w' => e = .returned (.int .i64 (sg t (t.m.d + t.m.e))) ∧ Below u.heap.size u w' := fun u => mapNumberI t _ u (by omega) ht.2.2 (by omega) (by omega)
  have hbox : B5 W.heap.size t (W.alloc (.cells #[.int .i64 t.c, .int .i64 t.m.x, .int .i64 t.m.y, .int .i64 t.m.d, .int .i64 t.m.e] 42)).drew := B5.box W t
  have hB0 : Below W.heap.size W (W.alloc (.cells #[.int .i64 t.c, .int .i64 t.m.x, .int .i64 t.m.y, .int .i64 t.m.d, .int .i64 t.m.e] 42)).drew := (bel_one W (.cells #[.int .i64 t.c, .int .i64 t.m.x, .int .i64 t.m.y, .int .i64 t.m.d, .int .i64 t.m.e] 42)).drew
  have hs0 : (W.alloc (.cells #[.int .i64 t.c, .int .i64 t.m.x, .int .i64 t.m.y, .int .i64 t.m.d, .int .i64 t.m.e] 42)).drew.heap.size = W.heap.size + 1 := by simp
  show Calls Try.prog 55 #[.map (some b), .agg #[.int .i64 t.c, .int .i64 t.m.x, .int .i64 t.m.y, .int .i64 t.m.d, .int .i64 t.m.e]] W _
  go_enter Try.func55, Try.ntmps55
  go_wp2_with fail
  go_region_held3 (fun u => u.cell? ⟨W.heap.size, 0, none⟩ = some (.int .i64 t.c) ∧ u.cell? ⟨W.heap.size, 1, none⟩ = some (.int .i64 t.m.x) ∧ u.cell? ⟨W.heap.size, 2, none⟩ = some (.int .i64 t.m.y) ∧ u.cell? ⟨W.heap.size, 3, none⟩ = some (.int .i64 t.m.d) ∧ u.cell? ⟨W.heap.size, 4, none⟩ = some (.int .i64 t.m.e)) (first | with_reducible exact hbox | with_reducible exact B5.below (b := W.heap.size) (t := t) (by assumption) (by assumption) (B5.lt (t := t) (by assumption)) | with_reducible exact B5.alloc (b := W.heap.size) (t := t) (by assumption) _ | with_reducible exact B5.set5 (b := W.heap.size) (t := t) (by assumption) (by simp) _ _ _ _ _ | go_keep) (first | (go_at_call 53; refine (hnum _).mono ?_; rintro e w1 ⟨rfl, hb1⟩; obtain ⟨hc1, hf1⟩ := bcell hb1))
  · have hsw := hb1.size
    have hA : B5 w1.heap.size (bckA t) (w1.alloc (.cells #[.int .i64 (sg t (t.m.d + t.m.e)), .int .i64 0, .int .i64 0, .int .i64 (t.m.d), .int .i64 (t.m.e)] 42)) := B5.box w1 (bckA t)
    have hB2 : Below W.heap.size W (w1.alloc (.cells #[.int .i64 (sg t (t.m.d + t.m.e)), .int .i64 0, .int .i64 0, .int .i64 (t.m.d), .int .i64 (t.m.e)] 42)) := (bel_next hB0 hb1).alloc (by omega) _
    clear hc1 hf1 hb1 hnum hbox hB0
    generalize w1.alloc (.cells #[.int .i64 (sg t (t.m.d + t.m.e)), .int .i64 0, .int .i64 0, .int .i64 (t.m.d), .int .i64 (t.m.e)] 42) = u2 at *
    generalize w1.heap.size = G at *
    clear hs0 hsw
    have hT : B5 W.heap.size t u2 := by assumption
    have hTl := hT.lt
    have hAl := hA.lt
    have hok : ((bckA t).m.sum (bckB t).m).ok = true := M.ok_iff.2 (by dsimp only [bckA, bckB, M.sum]; omega)
    have hTwo : Two (bckA t) (bckB t) ((bckA t).m.sum (bckB t).m) := Two.of o1 o2 hok hsr ⟨show (0 : Int) ≤ 1 by decide, show (1 : Int) ≤ 100 by decide⟩
    obtain ⟨nf, nc⟩ := addL_pair hTwo hK hcr hKc
    have hB3 : Below W.heap.size W (u2.alloc (.cells #[.int .i64 1, .int .i64 (t.m.x), .int .i64 (t.m.y), .int .i64 0, .int .i64 0] 42)) := hB2.alloc (by omega) _
    have hcall := addProdI (u2.alloc (.cells #[.int .i64 1, .int .i64 (t.m.x), .int .i64 (t.m.y), .int .i64 0, .int .i64 0] 42)) b c (hS.grown (grown_of_below hB3) (by simp)) (bckA t) (bckB t) hTwo nf nc
    have HB3 := Hid.mk' hB3
    have HST : Hid (stMapBack K t = if (addL K (pairL (bckA t) (bckB t))).length ≤ 400 then some (addL K (pairL (bckA t) (bckB t))) else none) := by
      show stepM K _ _ = _
      unfold stepM
      simp [hok]
    obtain ⟨t0, t1, t2, t3, t4⟩ := hT
    obtain ⟨a0, a1, a2, a3, a4⟩ := hA
    dsimp only [bckA] at a0 a1 a2 a3 a4
    clear hB2 hB3 hS
    go_wp2_with (go_at_call 54; refine hcall.mono ?_; rintro r w6 ⟨rfl, hs6, hg6⟩; have HS6 := Hid.mk' hs6; have HG6 := Hid.mk' hg6; clear hs6 hg6)
    go_ret
    refine ⟨(below_grown HB3.out (some b)).trans HG6.out, ?_⟩
    rw [HST.out]
    by_cases h4 : (addL K (pairL (bckA t) (bckB t))).length ≤ 400
    · exact .inl ⟨_, _, if_pos h4, by rw [decide_eq_true h4]; rfl, HS6.out, nf, nc⟩
    · exact .inr ⟨if_neg h4, by rw [decide_eq_false h4]; rfl⟩
  · have hsw := hb1.size
    have hA : B5 (W.heap.size + 1) (bckA t) (((((w1.setCell ⟨W.heap.size + 1, 0, none⟩ (.int .i64 (sg t (t.m.d + t.m.e)))).setCell ⟨W.heap.size + 1, 1, none⟩ (.int .i64 0)).setCell ⟨W.heap.size + 1, 2, none⟩ (.int .i64 0)).setCell ⟨W.heap.size + 1, 3, none⟩ (.int .i64 t.m.d)).setCell ⟨W.heap.size + 1, 4, none⟩ (.int .i64 t.m.e)) := by
      refine ⟨?_, ?_, ?_, ?_, ?_⟩ <;> go_simp <;> rfl
    have hB2 : Below W.heap.size W (((((w1.setCell ⟨W.heap.size + 1, 0, none⟩ (.int .i64 (sg t (t.m.d + t.m.e)))).setCell ⟨W.heap.size + 1, 1, none⟩ (.int .i64 0)).setCell ⟨W.heap.size + 1, 2, none⟩ (.int .i64 0)).setCell ⟨W.heap.size + 1, 3, none⟩ (.int .i64 t.m.d)).setCell ⟨W.heap.size + 1, 4, none⟩ (.int .i64 t.m.e)) := ((((((bel_next (hB0.alloc (by simp) (.cells #[.int .i64 0, .int .i64 0, .int .i64 0, .int .i64 0, .int .i64 0] 42)) hb1).setCell (by simp) _).setCell (by simp) _).setCell (by simp) _).setCell (by simp) _).setCell (by simp) _)
    clear hc1 hf1 hb1 hnum hbox hB0 hs0 hsw
    generalize (((((w1.setCell ⟨W.heap.size + 1, 0, none⟩ (.int .i64 (sg t (t.m.d + t.m.e)))).setCell ⟨W.heap.size + 1, 1, none⟩ (.int .i64 0)).setCell ⟨W.heap.size + 1, 2, none⟩ (.int .i64 0)).setCell ⟨W.heap.size + 1, 3, none⟩ (.int .i64 t.m.d)).setCell ⟨W.heap.size + 1, 4, none⟩ (.int .i64 t.m.e)) = u2 at *
    have hT : B5 W.heap.size t u2 := by assumption
    generalize hG : W.heap.size + 1 = G at *
    have hTl := hT.lt
    have hAl := hA.lt
    have hok : ((bckA t).m.sum (bckB t).m).ok = true := M.ok_iff.2 (by dsimp only [bckA, bckB, M.sum]; omega)
    have hTwo : Two (bckA t) (bckB t) ((bckA t).m.sum (bckB t).m) := Two.of o1 o2 hok hsr ⟨show (0 : Int) ≤ 1 by decide, show (1 : Int) ≤ 100 by decide⟩
    obtain ⟨nf, nc⟩ := addL_pair hTwo hK hcr hKc
    have hB3 : Below W.heap.size W (u2.alloc (.cells #[.int .i64 1, .int .i64 (t.m.x), .int .i64 (t.m.y), .int .i64 0, .int .i64 0] 42)) := hB2.alloc (by omega) _
    have hcall := addProdI (u2.alloc (.cells #[.int .i64 1, .int .i64 (t.m.x), .int .i64 (t.m.y), .int .i64 0, .int .i64 0] 42)) b c (hS.grown (grown_of_below hB3) (by simp)) (bckA t) (bckB t) hTwo nf nc
    have HB3 := Hid.mk' hB3
    have HST : Hid (stMapBack K t = if (addL K (pairL (bckA t) (bckB t))).length ≤ 400 then some (addL K (pairL (bckA t) (bckB t))) else none) := by
      show stepM K _ _ = _
      unfold stepM
      simp [hok]
    obtain ⟨t0, t1, t2, t3, t4⟩ := hT
    obtain ⟨a0, a1, a2, a3, a4⟩ := hA
    dsimp only [bckA] at a0 a1 a2 a3 a4
    clear hB2 hB3 hS
    go_wp2_with (go_at_call 54; refine hcall.mono ?_; rintro r w6 ⟨rfl, hs6, hg6⟩; have HS6 := Hid.mk' hs6; have HG6 := Hid.mk' hg6; clear hs6 hg6)
    go_ret
    refine ⟨(below_grown HB3.out (some b)).trans HG6.out, ?_⟩
    rw [HST.out]
    by_cases h4 : (addL K (pairL (bckA t) (bckB t))).length ≤ 400
    · exact .inl ⟨_, _, if_pos h4, by rw [decide_eq_true h4]; rfl, HS6.out, nf, nc⟩
    · exact .inr ⟨if_neg h4, by rw [decide_eq_false h4]; rfl⟩
end Go.Proofs.Ytahbekfhoidgjav
