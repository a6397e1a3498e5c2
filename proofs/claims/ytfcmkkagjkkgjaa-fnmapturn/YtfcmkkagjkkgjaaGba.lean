/-
  The first pair for the second one: the program and the model.
  Turning an operator round, and back: the program.
  Turning an operator round, and back: the model, and what the program answers.
-/
import Derived.Test.YtfcmkkagjkkgjaaGaz
import Derived.Deep.RegionHeld3
import Derived.Test.YtfcmkkagjkkgjaaGas
import Derived.Test.YtfcmkkagjkkgjaaGat
namespace Go.Proofs.Ytfcmkkagjkkgjaa
open Go.RowKit Go.Maps
set_option linter.unusedVariables false

def swapM (m : M) : M := ⟨m.y, m.x, m.e, m.d⟩
theorem swapM_ok {m : M} (h : m.ok = true) : (swapM m).ok = true := by
  obtain ⟨x1, x2, y1, y2, d1, d2, e1, e2⟩ := M.ok_iff.1 h
  exact M.ok_iff.2 ⟨y1, y2, x1, x2, e1, e2, d1, d2⟩
def stSwap (K : List T) (t : T) : Option (List T) := some (putT t.c (swapM t.m) K)
set_option maxHeartbeats 1000000 in
theorem swapTurns : Turns 52 #[] stSwap (fun _ => True) := by
  intro W b c K t hS hK hKc hl ht _
  have hm := swapM_ok ht.1
  have hput := putT_facts hK hm (by omega) ht.2.2
  have hcr := hS.range
  have HS := Hid.mk' (hS.grown (World.grownBy_alloc W (.cells #[.int .i64 t.c, .int .i64 t.m.x, .int .i64 t.m.y, .int .i64 t.m.d, .int .i64 t.m.e] 39) none) (by simp))
  have HADD := Hid.mk' (sumAddR b 65536 c t.c (swapM t.m) _ hm HS.out (by unfold maxLen; omega) (by omega) ht.2.2)
  clear hS
  show Calls Try.prog 52 #[.map (some b), .agg #[.int .i64 t.c, .int .i64 t.m.x, .int .i64 t.m.y, .int .i64 t.m.d, .int .i64 t.m.e]] W _
  go_enter Try.func52, Try.ntmps52
  go_wp2_with (go_at_call 45; refine HADD.out.mono ?_; rintro r w2 ⟨rfl, hs2, hg2⟩; have HS2 := Hid.mk' hs2.cap; have HG2 := Hid.mk' ((World.grownBy_alloc W (.cells #[.int .i64 t.c, .int .i64 t.m.x, .int .i64 t.m.y, .int .i64 t.m.d, .int .i64 t.m.e] 39) (some b)).trans hg2); clear hs2 hg2)
  go_ret
  refine ⟨HG2.out, .inl ⟨_, _, rfl, rfl, HS2.out, hput.1, fun m hmo => ?_⟩⟩
  rw [hput.2]
  unfold updC
  split
  · rw [hKc _ hm]
  · exact hKc m hmo
/-- the sum of what the first i terms are swapped into. -/
def swapL (f : Nat → T) : Nat → List T
  | 0 => []
  | i + 1 => putT (f i).c (swapM (f i).m) (swapL f i)
theorem swapL_len (f : Nat → T) : ∀ i, (swapL f i).length ≤ i
  | 0 => Nat.le_refl _
  | i + 1 => by have h1 := swapL_len f i; have h2 := putT_len (f i).c (swapM (f i).m) (swapL f i); show (putT _ _ _).length ≤ _; omega
theorem swapL_each (f : Nat → T) : ∀ i, i ≤ 400 → eachM stSwap f i = some (swapL f i)
  | 0, _ => rfl
  | i + 1, h => by
    rw [eachM, swapL_each f i (by omega)]
    show lim4 (swapL f (i + 1)) = _
    exact if_pos (Nat.le_trans (swapL_len f (i + 1)) h)
def mapSwap (f : Nat → T) (n : Nat) : List T := if polOk n f = true then swapL f n else []
theorem mapSwap_is (f : Nat → T) (n : Nat) : (mapV stSwap f n).1 = mapSwap f n := by
  unfold mapV mapSwap
  split
  · rename_i h
    rw [swapL_each f n (good_ok h).1]
    rfl
  · rfl
theorem mapSwap_len (f : Nat → T) (n : Nat) : (mapSwap f n).length ≤ 400 := by rw [← mapSwap_is]; exact mapV_len _ _ _
theorem swapL_falls {f : Nat → T} {n : Nat} (h : polOk n f = true) : ∀ i, i ≤ n → Falls (swapL f i)
  | 0, _ => falls_nil
  | i + 1, hi => by
    have h1 := (fl_of_ok h).2 i (by omega)
    exact (putT_facts (swapL_falls h i (by omega)) (swapM_ok h1.1) (by omega) h1.2.2).1
set_option maxHeartbeats 1000000 in
theorem mapSwapI (w : World) (a : Option Addr) (n cap : Nat) (f : Nat → T) (ha : Rd w a n cap f) :
    Calls Try.prog 21 #[.slice a n cap] w fun r w' => ∃ a' cap', r = .returned (.slice a' (mapSwap f n).length cap') ∧ Below w.heap.size w w' ∧ Out w.heap.size w' a' cap' (mapSwap f n) := by
  have hc := mapEachV w a n cap f 52 #[] stSwap (fun _ => True) (enters_of Try.func52 (by kernel_rfl) rfl) swapTurns (fun _ _ _ _ _ _ => trivial) (fun _ _ _ => trivial) trivial ha
  rw [mapSwap_is] at hc
  have hlen := mapSwap_len f n
  go_enter Try.func21, Try.ntmps21
  go_wp2_with (go_at_call 37; refine hc.mono ?_; rintro r w1 ⟨v, rfl, hb1, ho1⟩)
  go_ret
  obtain ⟨a', cap', rfl, hout⟩ := out_of_owns ho1 (by omega)
  exact ⟨a', cap', rfl, hb1, hout⟩
def S5 (pb o b : Nat) (t : T) (u : World) : Prop := u.cell? ⟨pb, o, none⟩ = some (.int .i64 t.c) ∧ u.cell? ⟨b, 0, none⟩ = some (.int .i64 t.m.x) ∧ u.cell? ⟨b, 1, none⟩ = some (.int .i64 t.m.y) ∧ u.cell? ⟨b, 2, none⟩ = some (.int .i64 t.m.d) ∧ u.cell? ⟨b, 3, none⟩ = some (.int .i64 t.m.e)
theorem S5.below {pb o b : Nat} {t : T} {u u' : World} (h : S5 pb o b t u) (hb : Below u.heap.size u u') (h1 : pb < u.heap.size) (h2 : b < u.heap.size) : S5 pb o b t u' :=
  ⟨(hb.cell (p := ⟨pb, o, none⟩) h1).trans h.1, (hb.cell (p := ⟨b, 0, none⟩) h2).trans h.2.1, (hb.cell (p := ⟨b, 1, none⟩) h2).trans h.2.2.1, (hb.cell (p := ⟨b, 2, none⟩) h2).trans h.2.2.2.1, (hb.cell (p := ⟨b, 3, none⟩) h2).trans h.2.2.2.2⟩
set_option maxRecDepth 100000 in
set_option maxHeartbeats 16000000 in
theorem mapSwapS (w : World) (a : Option Addr) (n cap : Nat) (f : Nat → T) (h : Rd w a n cap f) :
    Calls Try.prog 22 #[.slice a n cap] w fun r w' => ∃ v, r = .returned v ∧ Below w.heap.size w w' ∧ w'.ownsRow w.heap.size 39 5 v (mapSwap f n).length (cellsL (mapSwap f n)) := by
  have HA := Hid.mk' h
  have hn : (n : Int) ≤ 140737488351232 := by have := h.2.1; omega
  have hO0 := owns_none w w.heap.size (Nat.le_refl _)
  have hB0 := bel_one w (.cells #[] 39)
  clear h
  cases hpa : polOk n f
  · have e1 : mapSwap f n = [] := by simp [mapSwap, hpa]
    rw [e1]
    go_enter Try.func22, Try.ntmps22
    go_wp2
    generalize w.alloc (.cells #[] 39) = w0 at *
    go_loopw [3, 4] (fun v ii wr => ii = .int .i64 0 ∧ wr.ownsRow w.heap.size 39 5 v 0 (cellsL []) ∧ Below w.heap.size w wr) (fun _ _ _ => 0)
    case atStart => exact ⟨rfl, hO0, hB0⟩
    case round =>
      obtain ⟨rfl, hown, hbl⟩ := hrel
      by_cases h0 : n = 0
      · subst h0
        go_wp2
        go_ret
        exact ⟨_, rfl, hbl, hown⟩
      · have hpos : (0 : Int) < (n : Int) := by omega
        have HOWN := Hid.mk' hown
        have HBL := Hid.mk' hbl
        clear hown hbl
        go_wp2_with (go_at_call 23; refine (polOkS _ _ _ _ f (HA.out.below HBL.out)).mono ?_; rw [hpa]; rintro r w1 ⟨rfl, hb1⟩; have HB1 := Hid.mk' hb1; clear hb1)
        go_ret
        exact ⟨_, rfl, bel_next HBL.out HB1.out, owns_below HOWN.out HB1.out⟩
  · have e1 : mapSwap f n = swapL f n := by simp [mapSwap, hpa]
    rw [e1]
    have l1 := (good_ok hpa).1
    have HPA := Hid.mk' hpa
    go_enter Try.func22, Try.ntmps22
    go_wp2
    generalize w.alloc (.cells #[] 39) = w0 at *
    go_loopw [3, 4] (fun v ii wr => ∃ i : Nat, i ≤ n ∧ ii = .int .i64 (i : Int) ∧ wr.ownsRow w.heap.size 39 5 v (swapL f i).length (cellsL (swapL f i)) ∧ Below w.heap.size w wr) (fun _ ii _ => n - (intOf ii).toNat)
    case atStart => exact ⟨0, Nat.zero_le _, rfl, hO0, hB0⟩
    case round =>
      obtain ⟨i, hi, rfl, hown, hbl⟩ := hrel
      by_cases hlt : i < n
      · have hil : (i : Int) < (n : Int) := by omega
        have hfi := (fl_of_ok HPA.out).2 i hlt
        have hsl := swapL_len f i
        have hfl := swapL_falls HPA.out i (by omega)
        have HOWN := Hid.mk' hown
        have HBL := Hid.mk' hbl
        clear hown hbl
        have hri := HA.out.below HBL.out
        rcases hri.2.2 with h0 | ⟨pb, off, hpe, hblt, hcl⟩
        · omega
        subst hpe
        clear hcl hri
        go_wp2_with (go_at_call 23; refine (polOkS _ _ _ _ f (HA.out.below HBL.out)).mono ?_; rw [hpa]; rintro r w1 ⟨rfl, hb1⟩; have HB1 := Hid.mk' hb1; have HB1w := Hid.mk' (bel_next HBL.out hb1); have hr1 := HA.out.below HB1w.out; have hc1 := (hr1.2.2.resolve_left (by omega)); obtain ⟨pb', off', hpe', hblt', hcl'⟩ := hc1; cases hpe'; obtain ⟨g0, g1, g2, g3, g4⟩ := hcl' i hlt; clear hb1 hr1 hcl')
        have hq := M4.box w1 37 (f i).m.x (f i).m.y (f i).m.d (f i).m.e
        obtain ⟨q0, q1, q2, q3⟩ := hq
        have g5 := ((bel_one w1 (.cells #[.int .i64 (f i).m.x, .int .i64 (f i).m.y, .int .i64 (f i).m.d, .int .i64 (f i).m.e] 37)).cell (p := ⟨pb, off + i * 5, none⟩) hblt').trans g0
        have HBQ := Hid.mk' (bel_next HB1w.out (bel_one w1 (.cells #[.int .i64 (f i).m.x, .int .i64 (f i).m.y, .int .i64 (f i).m.d, .int .i64 (f i).m.e] 37)))
        have HOQ := Hid.mk' (owns_below (owns_below HOWN.out HB1.out) (bel_one w1 (.cells #[.int .i64 (f i).m.x, .int .i64 (f i).m.y, .int .i64 (f i).m.d, .int .i64 (f i).m.e] 37)))
        have hqs : (w1.alloc (.cells #[.int .i64 (f i).m.x, .int .i64 (f i).m.y, .int .i64 (f i).m.d, .int .i64 (f i).m.e] 37)).heap.size = w1.heap.size + 1 := by simp
        clear g0 g1 g2 g3 g4
        generalize w1.alloc (.cells #[.int .i64 (f i).m.x, .int .i64 (f i).m.y, .int .i64 (f i).m.d, .int .i64 (f i).m.e] 37) = wq at hqs HBQ HOQ q0 q1 q2 q3 g5 ⊢
        have HPUT := Hid.mk' (l4PutS wq.drew w.heap.size _ (swapL f i) (f i).c (f i).m.y (f i).m.x (f i).m.e (f i).m.d (owns_below HOQ.out (Below.refl _ _).drew) HBQ.out.drew.size (by omega) (cok_falls hfl) (by omega) hfi.2.2)
        have hpbq : pb < wq.heap.size := by rw [hqs]; omega
        have hb1q : w1.heap.size < wq.heap.size := by omega
        have hS0 : S5 pb (off + i * 5) w1.heap.size (f i) wq.drew := ⟨g5, q0, q1, q2, q3⟩
        go_region_held3 (fun u => u.cell? ⟨pb, off + i * 5, none⟩ = some (.int .i64 (f i).c) ∧ u.cell? ⟨w1.heap.size, 0, none⟩ = some (.int .i64 (f i).m.x) ∧ u.cell? ⟨w1.heap.size, 1, none⟩ = some (.int .i64 (f i).m.y) ∧ u.cell? ⟨w1.heap.size, 2, none⟩ = some (.int .i64 (f i).m.d) ∧ u.cell? ⟨w1.heap.size, 3, none⟩ = some (.int .i64 (f i).m.e)) (first | exact hS0 | exact S5.below hS0 (by assumption) hpbq hb1q) (first | (go_at_call 53; refine HPUT.out.mono ?_; rintro e w4 ⟨v4, rfl, hb4, ho4⟩; have HB4 : Hid (Below w.heap.size w w4) := (bel_next HBQ.out.drew hb4); have HO4 := Hid.mk' ho4; clear ho4))
        all_goals
          go_wp2
          go_roundw
          case rel => exact ⟨i + 1, by omega, by go_num, HO4.out, HB4.out⟩
          case measure => simp [intOf]; omega
      · obtain rfl : i = n := by omega
        have HOWN := Hid.mk' hown
        have HBL := Hid.mk' hbl
        clear hown hbl
        go_wp2
        go_ret
        exact ⟨_, rfl, HBL.out, HOWN.out⟩
end Go.Proofs.Ytfcmkkagjkkgjaa
namespace Go.Proofs.Ytfcmkkagjkkgjaa
open Go.RowKit Go.Maps
set_option linter.unusedVariables false


def sgn (n : Int) : Int := if n % 2 = 0 then 1 else 100
theorem sgn_range (n : Int) : 0 ≤ sgn n ∧ sgn n ≤ 100 := by unfold sgn; split <;> omega
theorem pw_sgn : ∀ n : Nat, pw 100 n = sgn (n : Int)
  | 0 => rfl
  | n + 1 => by
    rw [pw, pw_sgn n]
    unfold sgn
    split <;> split <;> omega
/-- the number of a turned term. -/
def sg (t : T) (n : Int) : Int := t.c * sgn n % 101
theorem sg_range (t : T) (n : Int) : 0 ≤ sg t n ∧ sg t n ≤ 100 := by unfold sg; omega
theorem sg_pos {t : T} {n : Int} (h : 1 ≤ t.c) (h' : t.c ≤ 100) : 1 ≤ sg t n := by
  unfold sg sgn
  split <;> omega
/-- the cells of a term, in a box. -/
abbrev B5 (b : Nat) (t : T) (u : World) : Prop := u.cell? ⟨b, 0, none⟩ = some (.int .i64 t.c) ∧ u.cell? ⟨b, 1, none⟩ = some (.int .i64 t.m.x) ∧ u.cell? ⟨b, 2, none⟩ = some (.int .i64 t.m.y) ∧ u.cell? ⟨b, 3, none⟩ = some (.int .i64 t.m.d) ∧ u.cell? ⟨b, 4, none⟩ = some (.int .i64 t.m.e)
theorem B5.below {b : Nat} {t : T} {u u' : World} (h : B5 b t u) (hb : Below u.heap.size u u') (h2 : b < u.heap.size) : B5 b t u' :=
  ⟨(hb.cell (p := ⟨b, 0, none⟩) h2).trans h.1, (hb.cell (p := ⟨b, 1, none⟩) h2).trans h.2.1, (hb.cell (p := ⟨b, 2, none⟩) h2).trans h.2.2.1, (hb.cell (p := ⟨b, 3, none⟩) h2).trans h.2.2.2.1, (hb.cell (p := ⟨b, 4, none⟩) h2).trans h.2.2.2.2⟩
theorem B5.lt {b : Nat} {t : T} {u : World} (h : B5 b t u) : b < u.heap.size := World.block_lt_of_cell? u ⟨b, 0, none⟩ h.1
theorem B5.box (w : World) (t : T) : B5 w.heap.size t (w.alloc (.cells #[.int .i64 t.c, .int .i64 t.m.x, .int .i64 t.m.y, .int .i64 t.m.d, .int .i64 t.m.e] 39)) := by
  refine ⟨?_, ?_, ?_, ?_, ?_⟩ <;> (rw [World.cell?_alloc_at _ _ _ _ rfl]; rfl)
theorem B5.far {w : World} {b o b' o' : Nat} {v : Value} (h : b' ≠ b) : (w.setCell ⟨b, o, none⟩ v).cell? ⟨b', o', none⟩ = w.cell? ⟨b', o', none⟩ := World.cell?_of_block (w := w) (Below.heap_setCell _ _ _ _ h)
theorem B5.set {b g o : Nat} {t : T} {u : World} (h : B5 b t u) (hg : b ≠ g) (v : Value) : B5 b t (u.setCell ⟨g, o, none⟩ v) :=
  ⟨(B5.far hg).trans h.1, (B5.far hg).trans h.2.1, (B5.far hg).trans h.2.2.1, (B5.far hg).trans h.2.2.2.1, (B5.far hg).trans h.2.2.2.2⟩
theorem B5.alloc {b : Nat} {t : T} {u : World} (h : B5 b t u) (o : Obj) : B5 b t (u.alloc o) := h.below (bel_one u o) h.lt
theorem B5.set5 {b g : Nat} {t : T} {u : World} (h : B5 b t u) (hg : b ≠ g) (v0 v1 v2 v3 v4 : Value) : B5 b t (((((u.setCell ⟨g, 0, none⟩ v0).setCell ⟨g, 1, none⟩ v1).setCell ⟨g, 2, none⟩ v2).setCell ⟨g, 3, none⟩ v3).setCell ⟨g, 4, none⟩ v4) :=
  ((((h.set hg v0).set hg v1).set hg v2).set hg v3).set hg v4
set_option maxHeartbeats 1000000 in
theorem mapNumberI (t : T) (n : Int) (w : World) (h0 : 0 ≤ t.c) (h1 : t.c ≤ 100) (n0 : 0 ≤ n) (n1 : n ≤ 1000) :
    Calls Try.prog 39 #[.agg #[.int .i64 t.c, .int .i64 t.m.x, .int .i64 t.m.y, .int .i64 t.m.d, .int .i64 t.m.e], .int .i64 n] w fun e w' => e = .returned (.int .i64 (sg t n)) ∧ Below w.heap.size w w' := by
  have hp : ∀ u : World, Calls Try.prog 68 #[.int .i64 100, .int .i64 n] u fun e w' => e = .returned (.int .i64 (sgn n)) ∧ w' = u := fun u => by
    have := power 100 n u (by omega) (by omega) n0 n1
    rwa [pw_sgn, Int.toNat_of_nonneg n0] at this
  have hs := sgn_range n
  have ht : ∀ u : World, Calls Try.prog 67 #[.int .i64 t.c, .int .i64 (sgn n)] u fun e w' => e = .returned (.int .i64 (sg t n)) ∧ w' = u := fun u => times _ _ _ h0 h1 hs.1 hs.2
  obtain ⟨q0, q1, q2, q3, q4⟩ := B5.box w t
  have hb := bel_one w (.cells #[.int .i64 t.c, .int .i64 t.m.x, .int .i64 t.m.y, .int .i64 t.m.d, .int .i64 t.m.e] 39)
  clear hs
  go_enter Try.func39, Try.ntmps39
  go_wp2_with fail
  go_region_with (first | (go_at_call 68; refine (hp _).mono ?_; rintro e w' ⟨rfl, hw'⟩; obtain rfl := hw'.symm; clear hw') | (go_at_call 67; refine (ht _).mono ?_; rintro e w' ⟨rfl, hw'⟩; obtain rfl := hw'.symm; clear hw'))
  all_goals
    go_wp2
    go_ret
    exact ⟨rfl, hb.drew⟩
theorem l5SignS (n : Int) (w : World) (n0 : 0 ≤ n) (n1 : n ≤ 1000) :
    Calls Try.prog 42 #[.int .i64 n] w fun e w' => e = .returned (.int .i64 (sgn n)) ∧ w' = w := by
  have hm : n.tmod 2 = n % 2 := Int.tmod_eq_emod_of_nonneg n0
  by_cases h : n % 2 = 0
  · have hb : (n % 2 == 0) = true := by simp [h]
    have e1 : sgn n = 1 := if_pos h
    rw [e1]
    go_enter Try.func42, Try.ntmps42
    go_wp2
    go_ret
    exact ⟨rfl, rfl⟩
  · have hb : (n % 2 == 0) = false := by simp [h]
    have e1 : sgn n = 100 := if_neg h
    rw [e1]
    go_enter Try.func42, Try.ntmps42
    go_wp2
    go_ret
    exact ⟨rfl, rfl⟩
def rndA (t : T) : T := ⟨sg t (t.m.d + t.m.e), ⟨0, 0, t.m.x, t.m.y⟩⟩
def rndB (t : T) : T := ⟨1, ⟨t.m.d, t.m.e, 0, 0⟩⟩
theorem rnd_ok {t : T} (h : t.m.ok = true) : (rndA t).m.ok = true ∧ (rndB t).m.ok = true := by
  obtain ⟨x1, x2, y1, y2, d1, d2, e1, e2⟩ := M.ok_iff.1 h
  exact ⟨M.ok_iff.2 (by dsimp only [rndA]; omega), M.ok_iff.2 (by dsimp only [rndB]; omega)⟩
def stMapRound (K : List T) (t : T) : Option (List T) := stepM K (rndA t) (rndB t)
set_option maxRecDepth 100000 in
set_option maxHeartbeats 4000000 in
theorem rndTurns : Turns 38 #[] stMapRound (fun _ => True) := by
  intro W b c K t hS hK hKc hl ht _
  obtain ⟨o1, o2⟩ := rnd_ok ht.1
  have hdb := M.ok_iff.1 ht.1
  have hcr := hS.range
  have hsr := sg_range t (t.m.d + t.m.e)
  have hwr : IntKind.i64.wrap (t.m.d + t.m.e) = t.m.d + t.m.e := by rw [IntKind.wrap_i64]; omega
  have hnum : ∀ u : World, Calls Try.prog 39 #[.agg #[.int .i64 t.c, .int .i64 t.m.x, .int .i64 t.m.y, .int .i64 t.m.d, .int .i64 t.m.e], .int .i64 (t.m.d + t.m.e)] u fun e w' => e = .returned (.int .i64 (sg t (t.m.d + t.m.e))) ∧ Below u.heap.size u w' := fun u => mapNumberI t _ u (by omega) ht.2.2 (by omega) (by omega)
  have hbox : B5 W.heap.size t (W.alloc (.cells #[.int .i64 t.c, .int .i64 t.m.x, .int .i64 t.m.y, .int .i64 t.m.d, .int .i64 t.m.e] 39)).drew := B5.box W t
  have hB0 : Below W.heap.size W (W.alloc (.cells #[.int .i64 t.c, .int .i64 t.m.x, .int .i64 t.m.y, .int .i64 t.m.d, .int .i64 t.m.e] 39)).drew := (bel_one W (.cells #[.int .i64 t.c, .int .i64 t.m.x, .int .i64 t.m.y, .int .i64 t.m.d, .int .i64 t.m.e] 39)).drew
  have hs0 : (W.alloc (.cells #[.int .i64 t.c, .int .i64 t.m.x, .int .i64 t.m.y, .int .i64 t.m.d, .int .i64 t.m.e] 39)).drew.heap.size = W.heap.size + 1 := by simp
  show Calls Try.prog 38 #[.map (some b), .agg #[.int .i64 t.c, .int .i64 t.m.x, .int .i64 t.m.y, .int .i64 t.m.d, .int .i64 t.m.e]] W _
  go_enter Try.func38, Try.ntmps38
  go_wp2_with fail
  go_region_held3 (fun u => u.cell? ⟨W.heap.size, 0, none⟩ = some (.int .i64 t.c) ∧ u.cell? ⟨W.heap.size, 1, none⟩ = some (.int .i64 t.m.x) ∧ u.cell? ⟨W.heap.size, 2, none⟩ = some (.int .i64 t.m.y) ∧ u.cell? ⟨W.heap.size, 3, none⟩ = some (.int .i64 t.m.d) ∧ u.cell? ⟨W.heap.size, 4, none⟩ = some (.int .i64 t.m.e)) (first | with_reducible exact hbox | with_reducible exact B5.below (b := W.heap.size) (t := t) (by assumption) (by assumption) (B5.lt (t := t) (by assumption)) | with_reducible exact B5.alloc (b := W.heap.size) (t := t) (by assumption) _ | with_reducible exact B5.set5 (b := W.heap.size) (t := t) (by assumption) (by simp) _ _ _ _ _ | go_keep) (first | (go_at_call 39; refine (hnum _).mono ?_; rintro e w1 ⟨rfl, hb1⟩; obtain ⟨hc1, hf1⟩ := bcell hb1))
  · have hsw := hb1.size
    have hA : B5 w1.heap.size (rndA t) (w1.alloc (.cells #[.int .i64 (sg t (t.m.d + t.m.e)), .int .i64 0, .int .i64 0, .int .i64 (t.m.x), .int .i64 (t.m.y)] 39)) := B5.box w1 (rndA t)
    have hB2 : Below W.heap.size W (w1.alloc (.cells #[.int .i64 (sg t (t.m.d + t.m.e)), .int .i64 0, .int .i64 0, .int .i64 (t.m.x), .int .i64 (t.m.y)] 39)) := (bel_next hB0 hb1).alloc (by omega) _
    clear hc1 hf1 hb1 hnum hbox hB0
    generalize w1.alloc (.cells #[.int .i64 (sg t (t.m.d + t.m.e)), .int .i64 0, .int .i64 0, .int .i64 (t.m.x), .int .i64 (t.m.y)] 39) = u2 at *
    generalize w1.heap.size = G at *
    clear hs0 hsw
    have hT : B5 W.heap.size t u2 := by assumption
    have hTl := hT.lt
    have hAl := hA.lt
    have hok : ((rndA t).m.sum (rndB t).m).ok = true := M.ok_iff.2 (by dsimp only [rndA, rndB, M.sum]; omega)
    have hTwo : Two (rndA t) (rndB t) ((rndA t).m.sum (rndB t).m) := Two.of o1 o2 hok hsr ⟨show (0 : Int) ≤ 1 by decide, show (1 : Int) ≤ 100 by decide⟩
    obtain ⟨nf, nc⟩ := addL_pair hTwo hK hcr hKc
    have hB3 : Below W.heap.size W (u2.alloc (.cells #[.int .i64 1, .int .i64 (t.m.d), .int .i64 (t.m.e), .int .i64 0, .int .i64 0] 39)) := hB2.alloc (by omega) _
    have hcall := addProdI (u2.alloc (.cells #[.int .i64 1, .int .i64 (t.m.d), .int .i64 (t.m.e), .int .i64 0, .int .i64 0] 39)) b c (hS.grown (grown_of_below hB3) (by simp)) (rndA t) (rndB t) hTwo nf nc
    have HB3 := Hid.mk' hB3
    have HST : Hid (stMapRound K t = if (addL K (pairL (rndA t) (rndB t))).length ≤ 400 then some (addL K (pairL (rndA t) (rndB t))) else none) := by
      show stepM K _ _ = _
      unfold stepM
      simp [hok]
    obtain ⟨t0, t1, t2, t3, t4⟩ := hT
    obtain ⟨a0, a1, a2, a3, a4⟩ := hA
    dsimp only [rndA] at a0 a1 a2 a3 a4
    clear hB2 hB3 hS
    go_wp2_with (go_at_call 40; refine hcall.mono ?_; rintro r w6 ⟨rfl, hs6, hg6⟩; have HS6 := Hid.mk' hs6; have HG6 := Hid.mk' hg6; clear hs6 hg6)
    go_ret
    refine ⟨(below_grown HB3.out (some b)).trans HG6.out, ?_⟩
    rw [HST.out]
    by_cases h4 : (addL K (pairL (rndA t) (rndB t))).length ≤ 400
    · exact .inl ⟨_, _, if_pos h4, by rw [decide_eq_true h4]; rfl, HS6.out, nf, nc⟩
    · exact .inr ⟨if_neg h4, by rw [decide_eq_false h4]; rfl⟩
  · have hsw := hb1.size
    have hA : B5 (W.heap.size + 1) (rndA t) (((((w1.setCell ⟨W.heap.size + 1, 0, none⟩ (.int .i64 (sg t (t.m.d + t.m.e)))).setCell ⟨W.heap.size + 1, 1, none⟩ (.int .i64 0)).setCell ⟨W.heap.size + 1, 2, none⟩ (.int .i64 0)).setCell ⟨W.heap.size + 1, 3, none⟩ (.int .i64 t.m.x)).setCell ⟨W.heap.size + 1, 4, none⟩ (.int .i64 t.m.y)) := by
      refine ⟨?_, ?_, ?_, ?_, ?_⟩ <;> go_simp <;> rfl
    have hB2 : Below W.heap.size W (((((w1.setCell ⟨W.heap.size + 1, 0, none⟩ (.int .i64 (sg t (t.m.d + t.m.e)))).setCell ⟨W.heap.size + 1, 1, none⟩ (.int .i64 0)).setCell ⟨W.heap.size + 1, 2, none⟩ (.int .i64 0)).setCell ⟨W.heap.size + 1, 3, none⟩ (.int .i64 t.m.x)).setCell ⟨W.heap.size + 1, 4, none⟩ (.int .i64 t.m.y)) := ((((((bel_next (hB0.alloc (by simp) (.cells #[.int .i64 0, .int .i64 0, .int .i64 0, .int .i64 0, .int .i64 0] 39)) hb1).setCell (by simp) _).setCell (by simp) _).setCell (by simp) _).setCell (by simp) _).setCell (by simp) _)
    clear hc1 hf1 hb1 hnum hbox hB0 hs0 hsw
    generalize (((((w1.setCell ⟨W.heap.size + 1, 0, none⟩ (.int .i64 (sg t (t.m.d + t.m.e)))).setCell ⟨W.heap.size + 1, 1, none⟩ (.int .i64 0)).setCell ⟨W.heap.size + 1, 2, none⟩ (.int .i64 0)).setCell ⟨W.heap.size + 1, 3, none⟩ (.int .i64 t.m.x)).setCell ⟨W.heap.size + 1, 4, none⟩ (.int .i64 t.m.y)) = u2 at *
    have hT : B5 W.heap.size t u2 := by assumption
    generalize hG : W.heap.size + 1 = G at *
    have hTl := hT.lt
    have hAl := hA.lt
    have hok : ((rndA t).m.sum (rndB t).m).ok = true := M.ok_iff.2 (by dsimp only [rndA, rndB, M.sum]; omega)
    have hTwo : Two (rndA t) (rndB t) ((rndA t).m.sum (rndB t).m) := Two.of o1 o2 hok hsr ⟨show (0 : Int) ≤ 1 by decide, show (1 : Int) ≤ 100 by decide⟩
    obtain ⟨nf, nc⟩ := addL_pair hTwo hK hcr hKc
    have hB3 : Below W.heap.size W (u2.alloc (.cells #[.int .i64 1, .int .i64 (t.m.d), .int .i64 (t.m.e), .int .i64 0, .int .i64 0] 39)) := hB2.alloc (by omega) _
    have hcall := addProdI (u2.alloc (.cells #[.int .i64 1, .int .i64 (t.m.d), .int .i64 (t.m.e), .int .i64 0, .int .i64 0] 39)) b c (hS.grown (grown_of_below hB3) (by simp)) (rndA t) (rndB t) hTwo nf nc
    have HB3 := Hid.mk' hB3
    have HST : Hid (stMapRound K t = if (addL K (pairL (rndA t) (rndB t))).length ≤ 400 then some (addL K (pairL (rndA t) (rndB t))) else none) := by
      show stepM K _ _ = _
      unfold stepM
      simp [hok]
    obtain ⟨t0, t1, t2, t3, t4⟩ := hT
    obtain ⟨a0, a1, a2, a3, a4⟩ := hA
    dsimp only [rndA] at a0 a1 a2 a3 a4
    clear hB2 hB3 hS
    go_wp2_with (go_at_call 40; refine hcall.mono ?_; rintro r w6 ⟨rfl, hs6, hg6⟩; have HS6 := Hid.mk' hs6; have HG6 := Hid.mk' hg6; clear hs6 hg6)
    go_ret
    refine ⟨(below_grown HB3.out (some b)).trans HG6.out, ?_⟩
    rw [HST.out]
    by_cases h4 : (addL K (pairL (rndA t) (rndB t))).length ≤ 400
    · exact .inl ⟨_, _, if_pos h4, by rw [decide_eq_true h4]; rfl, HS6.out, nf, nc⟩
    · exact .inr ⟨if_neg h4, by rw [decide_eq_false h4]; rfl⟩
def bckA (t : T) : T := ⟨sg t (t.m.d + t.m.e), ⟨0, 0, t.m.d, t.m.e⟩⟩
def bckB (t : T) : T := ⟨1, ⟨t.m.x, t.m.y, 0, 0⟩⟩
theorem bck_ok {t : T} (h : t.m.ok = true) : (bckA t).m.ok = true ∧ (bckB t).m.ok = true := by
  obtain ⟨x1, x2, y1, y2, d1, d2, e1, e2⟩ := M.ok_iff.1 h
  exact ⟨M.ok_iff.2 (by dsimp only [bckA]; omega), M.ok_iff.2 (by dsimp only [bckB]; omega)⟩
def stMapBack (K : List T) (t : T) : Option (List T) := stepM K (bckA t) (bckB t)
set_option maxRecDepth 100000 in
set_option maxHeartbeats 4000000 in
theorem bckTurns : Turns 48 #[] stMapBack (fun _ => True) := by
  intro W b c K t hS hK hKc hl ht _
  obtain ⟨o1, o2⟩ := bck_ok ht.1
  have hdb := M.ok_iff.1 ht.1
  have hcr := hS.range
  have hsr := sg_range t (t.m.d + t.m.e)
  have hwr : IntKind.i64.wrap (t.m.d + t.m.e) = t.m.d + t.m.e := by rw [IntKind.wrap_i64]; omega
  have hnum : ∀ u : World, Calls Try.prog 39 #[.agg #[.int .i64 t.c, .int .i64 t.m.x, .int .i64 t.m.y, .int .i64 t.m.d, .int .i64 t.m.e], .int .i64 (t.m.d + t.m.e)] u fun e w' => e = .returned (.int .i64 (sg t (t.m.d + t.m.e))) ∧ Below u.heap.size u w' := fun u => mapNumberI t _ u (by omega) ht.2.2 (by omega) (by omega)
  have hbox : B5 W.heap.size t (W.alloc (.cells #[.int .i64 t.c, .int .i64 t.m.x, .int .i64 t.m.y, .int .i64 t.m.d, .int .i64 t.m.e] 39)).drew := B5.box W t
  have hB0 : Below W.heap.size W (W.alloc (.cells #[.int .i64 t.c, .int .i64 t.m.x, .int .i64 t.m.y, .int .i64 t.m.d, .int .i64 t.m.e] 39)).drew := (bel_one W (.cells #[.int .i64 t.c, .int .i64 t.m.x, .int .i64 t.m.y, .int .i64 t.m.d, .int .i64 t.m.e] 39)).drew
  have hs0 : (W.alloc (.cells #[.int .i64 t.c, .int .i64 t.m.x, .int .i64 t.m.y, .int .i64 t.m.d, .int .i64 t.m.e] 39)).drew.heap.size = W.heap.size + 1 := by simp
  show Calls Try.prog 48 #[.map (some b), .agg #[.int .i64 t.c, .int .i64 t.m.x, .int .i64 t.m.y, .int .i64 t.m.d, .int .i64 t.m.e]] W _
  go_enter Try.func48, Try.ntmps48
  go_wp2_with fail
  go_region_held3 (fun u => u.cell? ⟨W.heap.size, 0, none⟩ = some (.int .i64 t.c) ∧ u.cell? ⟨W.heap.size, 1, none⟩ = some (.int .i64 t.m.x) ∧ u.cell? ⟨W.heap.size, 2, none⟩ = some (.int .i64 t.m.y) ∧ u.cell? ⟨W.heap.size, 3, none⟩ = some (.int .i64 t.m.d) ∧ u.cell? ⟨W.heap.size, 4, none⟩ = some (.int .i64 t.m.e)) (first | with_reducible exact hbox | with_reducible exact B5.below (b := W.heap.size) (t := t) (by assumption) (by assumption) (B5.lt (t := t) (by assumption)) | with_reducible exact B5.alloc (b := W.heap.size) (t := t) (by assumption) _ | with_reducible exact B5.set5 (b := W.heap.size) (t := t) (by assumption) (by simp) _ _ _ _ _ | go_keep) (first | (go_at_call 39; refine (hnum _).mono ?_; rintro e w1 ⟨rfl, hb1⟩; obtain ⟨hc1, hf1⟩ := bcell hb1))
  · have hsw := hb1.size
    have hA : B5 w1.heap.size (bckA t) (w1.alloc (.cells #[.int .i64 (sg t (t.m.d + t.m.e)), .int .i64 0, .int .i64 0, .int .i64 (t.m.d), .int .i64 (t.m.e)] 39)) := B5.box w1 (bckA t)
    have hB2 : Below W.heap.size W (w1.alloc (.cells #[.int .i64 (sg t (t.m.d + t.m.e)), .int .i64 0, .int .i64 0, .int .i64 (t.m.d), .int .i64 (t.m.e)] 39)) := (bel_next hB0 hb1).alloc (by omega) _
    clear hc1 hf1 hb1 hnum hbox hB0
    generalize w1.alloc (.cells #[.int .i64 (sg t (t.m.d + t.m.e)), .int .i64 0, .int .i64 0, .int .i64 (t.m.d), .int .i64 (t.m.e)] 39) = u2 at *
    generalize w1.heap.size = G at *
    clear hs0 hsw
    have hT : B5 W.heap.size t u2 := by assumption
    have hTl := hT.lt
    have hAl := hA.lt
    have hok : ((bckA t).m.sum (bckB t).m).ok = true := M.ok_iff.2 (by dsimp only [bckA, bckB, M.sum]; omega)
    have hTwo : Two (bckA t) (bckB t) ((bckA t).m.sum (bckB t).m) := Two.of o1 o2 hok hsr ⟨show (0 : Int) ≤ 1 by decide, show (1 : Int) ≤ 100 by decide⟩
    obtain ⟨nf, nc⟩ := addL_pair hTwo hK hcr hKc
    have hB3 : Below W.heap.size W (u2.alloc (.cells #[.int .i64 1, .int .i64 (t.m.x), .int .i64 (t.m.y), .int .i64 0, .int .i64 0] 39)) := hB2.alloc (by omega) _
    have hcall := addProdI (u2.alloc (.cells #[.int .i64 1, .int .i64 (t.m.x), .int .i64 (t.m.y), .int .i64 0, .int .i64 0] 39)) b c (hS.grown (grown_of_below hB3) (by simp)) (bckA t) (bckB t) hTwo nf nc
    have HB3 := Hid.mk' hB3
    have HST : Hid (stMapBack K t = if (addL K (pairL (bckA t) (bckB t))).length ≤ 400 then some (addL K (pairL (bckA t) (bckB t))) else none) := by
      show stepM K _ _ = _
      unfold stepM
      simp [hok]
    obtain ⟨t0, t1, t2, t3, t4⟩ := hT
    obtain ⟨a0, a1, a2, a3, a4⟩ := hA
    dsimp only [bckA] at a0 a1 a2 a3 a4
    clear hB2 hB3 hS
    go_wp2_with (go_at_call 40; refine hcall.mono ?_; rintro r w6 ⟨rfl, hs6, hg6⟩; have HS6 := Hid.mk' hs6; have HG6 := Hid.mk' hg6; clear hs6 hg6)
    go_ret
    refine ⟨(below_grown HB3.out (some b)).trans HG6.out, ?_⟩
    rw [HST.out]
    by_cases h4 : (addL K (pairL (bckA t) (bckB t))).length ≤ 400
    · exact .inl ⟨_, _, if_pos h4, by rw [decide_eq_true h4]; rfl, HS6.out, nf, nc⟩
    · exact .inr ⟨if_neg h4, by rw [decide_eq_false h4]; rfl⟩
  · have hsw := hb1.size
    have hA : B5 (W.heap.size + 1) (bckA t) (((((w1.setCell ⟨W.heap.size + 1, 0, none⟩ (.int .i64 (sg t (t.m.d + t.m.e)))).setCell ⟨W.heap.size + 1, 1, none⟩ (.int .i64 0)).setCell ⟨W.heap.size + 1, 2, none⟩ (.int .i64 0)).setCell ⟨W.heap.size + 1, 3, none⟩ (.int .i64 t.m.d)).setCell ⟨W.heap.size + 1, 4, none⟩ (.int .i64 t.m.e)) := by
      refine ⟨?_, ?_, ?_, ?_, ?_⟩ <;> go_simp <;> rfl
    have hB2 : Below W.heap.size W (((((w1.setCell ⟨W.heap.size + 1, 0, none⟩ (.int .i64 (sg t (t.m.d + t.m.e)))).setCell ⟨W.heap.size + 1, 1, none⟩ (.int .i64 0)).setCell ⟨W.heap.size + 1, 2, none⟩ (.int .i64 0)).setCell ⟨W.heap.size + 1, 3, none⟩ (.int .i64 t.m.d)).setCell ⟨W.heap.size + 1, 4, none⟩ (.int .i64 t.m.e)) := ((((((bel_next (hB0.alloc (by simp) (.cells #[.int .i64 0, .int .i64 0, .int .i64 0, .int .i64 0, .int .i64 0] 39)) hb1).setCell (by simp) _).setCell (by simp) _).setCell (by simp) _).setCell (by simp) _).setCell (by simp) _)
    clear hc1 hf1 hb1 hnum hbox hB0 hs0 hsw
    generalize (((((w1.setCell ⟨W.heap.size + 1, 0, none⟩ (.int .i64 (sg t (t.m.d + t.m.e)))).setCell ⟨W.heap.size + 1, 1, none⟩ (.int .i64 0)).setCell ⟨W.heap.size + 1, 2, none⟩ (.int .i64 0)).setCell ⟨W.heap.size + 1, 3, none⟩ (.int .i64 t.m.d)).setCell ⟨W.heap.size + 1, 4, none⟩ (.int .i64 t.m.e)) = u2 at *
    have hT : B5 W.heap.size t u2 := by assumption
    generalize hG : W.heap.size + 1 = G at *
    have hTl := hT.lt
    have hAl := hA.lt
    have hok : ((bckA t).m.sum (bckB t).m).ok = true := M.ok_iff.2 (by dsimp only [bckA, bckB, M.sum]; omega)
    have hTwo : Two (bckA t) (bckB t) ((bckA t).m.sum (bckB t).m) := Two.of o1 o2 hok hsr ⟨show (0 : Int) ≤ 1 by decide, show (1 : Int) ≤ 100 by decide⟩
    obtain ⟨nf, nc⟩ := addL_pair hTwo hK hcr hKc
    have hB3 : Below W.heap.size W (u2.alloc (.cells #[.int .i64 1, .int .i64 (t.m.x), .int .i64 (t.m.y), .int .i64 0, .int .i64 0] 39)) := hB2.alloc (by omega) _
    have hcall := addProdI (u2.alloc (.cells #[.int .i64 1, .int .i64 (t.m.x), .int .i64 (t.m.y), .int .i64 0, .int .i64 0] 39)) b c (hS.grown (grown_of_below hB3) (by simp)) (bckA t) (bckB t) hTwo nf nc
    have HB3 := Hid.mk' hB3
    have HST : Hid (stMapBack K t = if (addL K (pairL (bckA t) (bckB t))).length ≤ 400 then some (addL K (pairL (bckA t) (bckB t))) else none) := by
      show stepM K _ _ = _
      unfold stepM
      simp [hok]
    obtain ⟨t0, t1, t2, t3, t4⟩ := hT
    obtain ⟨a0, a1, a2, a3, a4⟩ := hA
    dsimp only [bckA] at a0 a1 a2 a3 a4
    clear hB2 hB3 hS
    go_wp2_with (go_at_call 40; refine hcall.mono ?_; rintro r w6 ⟨rfl, hs6, hg6⟩; have HS6 := Hid.mk' hs6; have HG6 := Hid.mk' hg6; clear hs6 hg6)
    go_ret
    refine ⟨(below_grown HB3.out (some b)).trans HG6.out, ?_⟩
    rw [HST.out]
    by_cases h4 : (addL K (pairL (bckA t) (bckB t))).length ≤ 400
    · exact .inl ⟨_, _, if_pos h4, by rw [decide_eq_true h4]; rfl, HS6.out, nf, nc⟩
    · exact .inr ⟨if_neg h4, by rw [decide_eq_false h4]; rfl⟩
end Go.Proofs.Ytfcmkkagjkkgjaa
namespace Go.Proofs.Ytfcmkkagjkkgjaa
open Go.RowKit Go.Maps
set_option linter.unusedVariables false


set_option maxRecDepth 100000 in
set_option maxHeartbeats 4000000 in
theorem l5PutS (w : World) (lo : Nat) (v : Value) (K : List T) (a b : T) (ho : w.ownsRow lo 39 5 v K.length (cellsL K)) (hlo : lo ≤ w.heap.size) (hl : K.length ≤ 400) (hK : Falls K) (h1 : a.m.ok = true ∧ 0 ≤ a.c ∧ a.c ≤ 100) (h2 : b.m.ok = true ∧ b.c = 1) :
    Calls Try.prog 41 #[v, .int .i64 a.c, .agg #[.int .i64 a.m.x, .int .i64 a.m.y, .int .i64 a.m.d, .int .i64 a.m.e], .agg #[.int .i64 b.m.x, .int .i64 b.m.y, .int .i64 b.m.d, .int .i64 b.m.e]] w fun r w' => ∃ v', r = .returned (.tuple #[v', .bool (mulO (stepM K a b)).2]) ∧ Below w.heap.size w w' ∧ w'.ownsRow lo 39 5 v' (mulO (stepM K a b)).1.length (cellsL (mulO (stepM K a b)).1) := by
  obtain ⟨p, cap, rfl, hout⟩ := out_of_owns ho (by omega)
  have HR := Hid.mk' hout.1
  clear ho hout
  have h2' : b.m.ok = true ∧ 0 ≤ b.c ∧ b.c ≤ 100 := ⟨h2.1, by omega, by omega⟩
  have hm : ∀ u : World, Calls Try.prog 72 #[.agg #[.int .i64 a.c, .int .i64 a.m.x, .int .i64 a.m.y, .int .i64 a.m.d, .int .i64 a.m.e], .agg #[.int .i64 1, .int .i64 b.m.x, .int .i64 b.m.y, .int .i64 b.m.d, .int .i64 b.m.e]] u fun e w' => ∃ v, e = .returned (.tuple #[v, .bool (a.m.sum b.m).ok]) ∧ Below u.heap.size u w' ∧ w'.ownsRow u.heap.size 39 5 v (pairO a b).length (cellsL (pairO a b)) := fun u => by
    have := monoS u a b h1 h2'
    rwa [h2.2] at this
  have hz := Hid.mk' (bel_next (bel_one w (.cells #[.int .i64 a.m.x, .int .i64 a.m.y, .int .i64 a.m.d, .int .i64 a.m.e] 37)) (bel_one _ (.cells #[.int .i64 b.m.x, .int .i64 b.m.y, .int .i64 b.m.d, .int .i64 b.m.e] 37)))
  have hsm := pairO_small h1 h2'
  cases hok : (a.m.sum b.m).ok
  · have e1 : stepM K a b = none := if_neg (fun h => by rw [hok] at h; cases h.1)
    rw [e1]
    rw [hok] at hm
    go_enter Try.func41, Try.ntmps41
    go_wp2_with fail
    refine (hm _).mono ?_
    rintro r w1 ⟨vx, rfl, hb1, _⟩
    have HB1 := Hid.mk' (bel_next hz.out hb1)
    clear hb1
    go_wp2
    refine bodyPost_ret (results_tmp2 rfl _ _ _) rfl ?_
    exact ⟨_, rfl, HB1.out.alloc HB1.out.size _, owns_none w1 lo (Nat.le_trans hlo HB1.out.size)⟩
  · have e0 : pairO a b = pairL a b := if_pos hok
    rw [e0] at hm hsm
    rw [hok] at hm
    have hTwo : Two a b (a.m.sum b.m) := ⟨h1.1, h2.1, hok, rfl, rfl, rfl, rfl, h1.2, h2'.2⟩
    have hpf := (pairL_facts hTwo).1
    by_cases h4 : (addL K (pairL a b)).length ≤ 400
    · have e1 : stepM K a b = some (addL K (pairL a b)) := if_pos ⟨hok, h4⟩
      have h4' : ((addL K (pairL a b)).length : Int) ≤ 400 := by omega
      rw [e1]
      go_enter Try.func41, Try.ntmps41
      go_wp2_with fail
      refine (hm _).mono ?_
      rintro r w1 ⟨vx, rfl, hb1, hx⟩
      obtain ⟨px, cx, rfl, hox⟩ := out_of_owns hx (by omega)
      have HB1 := Hid.mk' (bel_next hz.out hb1)
      have HX := Hid.mk' hox.1
      clear hb1 hx hox
      go_wp2_with fail
      refine (l3AddS _ _ _ _ _ _ _ (lf K) (lf (pairL a b)) (HR.out.below HB1.out) HX.out (by omega) (cok_falls hK).at (cok_falls hpf).at).mono ?_
      rintro r w2 ⟨v2, rfl, hb2, hown⟩
      change w2.ownsRow w1.heap.size 39 5 v2 (addL K (pairL a b)).length (cellsL (addL K (pairL a b))) at hown
      obtain ⟨py, cy, rfl, _⟩ := out_of_owns hown (by omega)
      have HB2 := Hid.mk' (bel_next HB1.out hb2)
      have HO := Hid.mk' (owns_lower hown (Nat.le_trans hlo HB1.out.size))
      clear hb2 hown
      go_wp2
      refine bodyPost_ret (results_tmp2 rfl _ _ _) rfl ?_
      exact ⟨_, rfl, HB2.out, HO.out⟩
    · have e1 : stepM K a b = none := if_neg (fun h => h4 h.2)
      have h4' : (400 : Int) < ((addL K (pairL a b)).length : Int) := by omega
      have hal : (addL K (pairL a b)).length ≤ 2000 := by have := addT_len (lf K) K.length (lf (pairL a b)) (pairL a b).length 0 0; unfold addL; omega
      rw [e1]
      go_enter Try.func41, Try.ntmps41
      go_wp2_with fail
      refine (hm _).mono ?_
      rintro r w1 ⟨vx, rfl, hb1, hx⟩
      obtain ⟨px, cx, rfl, hox⟩ := out_of_owns hx (by omega)
      have HB1 := Hid.mk' (bel_next hz.out hb1)
      have HX := Hid.mk' hox.1
      clear hb1 hx hox
      go_wp2_with fail
      refine (l3AddS _ _ _ _ _ _ _ (lf K) (lf (pairL a b)) (HR.out.below HB1.out) HX.out (by omega) (cok_falls hK).at (cok_falls hpf).at).mono ?_
      rintro r w2 ⟨v2, rfl, hb2, hown⟩
      change w2.ownsRow w1.heap.size 39 5 v2 (addL K (pairL a b)).length (cellsL (addL K (pairL a b))) at hown
      obtain ⟨py, cy, rfl, _⟩ := out_of_owns hown (by omega)
      have HB2 := Hid.mk' (bel_next HB1.out hb2)
      clear hb2 hown
      go_wp2
      refine bodyPost_ret (results_tmp2 rfl _ _ _) rfl ?_
      exact ⟨_, rfl, HB2.out.alloc HB2.out.size _, owns_none w2 lo (Nat.le_trans hlo HB2.out.size)⟩

abbrev P5 (pb o b : Nat) (t : T) (u : World) : Prop := u.cell? ⟨pb, o, none⟩ = some (.int .i64 t.c) ∧ u.cell? ⟨b, 0, none⟩ = some (.int .i64 t.m.x) ∧ u.cell? ⟨b, 1, none⟩ = some (.int .i64 t.m.y) ∧ u.cell? ⟨b, 2, none⟩ = some (.int .i64 t.m.d) ∧ u.cell? ⟨b, 3, none⟩ = some (.int .i64 t.m.e)
theorem P5.below {pb o b : Nat} {t : T} {u u' : World} (h : P5 pb o b t u) (hb : Below u.heap.size u u') (h1 : pb < u.heap.size) (h2 : b < u.heap.size) : P5 pb o b t u' :=
  ⟨(hb.cell (p := ⟨pb, o, none⟩) h1).trans h.1, (hb.cell (p := ⟨b, 0, none⟩) h2).trans h.2.1, (hb.cell (p := ⟨b, 1, none⟩) h2).trans h.2.2.1, (hb.cell (p := ⟨b, 2, none⟩) h2).trans h.2.2.2.1, (hb.cell (p := ⟨b, 3, none⟩) h2).trans h.2.2.2.2⟩
def mapRound (f : Nat → T) (n : Nat) : List T × Bool := mapV stMapRound f n
theorem mapRound_len (f : Nat → T) (n : Nat) : (mapRound f n).1.length ≤ 400 := mapV_len _ _ _
set_option maxHeartbeats 1000000 in
theorem mapRoundI (w : World) (a : Option Addr) (n cap : Nat) (f : Nat → T) (ha : Rd w a n cap f) :
    Calls Try.prog 10 #[.slice a n cap] w fun r w' => ∃ a' cap', r = .returned (.tuple #[.slice a' (mapRound f n).1.length cap', .bool (mapRound f n).2]) ∧ Below w.heap.size w w' ∧ Out w.heap.size w' a' cap' (mapRound f n).1 := by
  have hc := mapEachV w a n cap f 38 #[] stMapRound (fun _ => True) (enters_of Try.func38 (by kernel_rfl) rfl) rndTurns (fun _ _ _ _ _ _ => trivial) (fun _ _ _ => trivial) trivial ha
  change Calls Try.prog 37 #[.slice a n cap, .func (.func 38) #[] #[]] w fun r w' => ∃ v, r = .returned (.tuple #[v, .bool (mapRound f n).2]) ∧ Below w.heap.size w w' ∧ w'.ownsRow w.heap.size 39 5 v (mapRound f n).1.length (cellsL (mapRound f n).1) at hc
  have hlen := mapRound_len f n
  generalize mapRound f n = V at hc hlen ⊢
  go_enter Try.func10, Try.ntmps10
  go_wp2_with (go_at_call 37; refine hc.mono ?_; rintro r w1 ⟨v, rfl, hb1, ho1⟩)
  refine bodyPost_ret (results_tmp2 rfl _ _ _) rfl ?_
  obtain ⟨a', cap', rfl, hout⟩ := out_of_owns ho1 (by omega)
  exact ⟨a', cap', rfl, hb1, hout⟩
set_option maxRecDepth 100000 in
set_option maxHeartbeats 16000000 in
theorem mapRoundS (w : World) (a : Option Addr) (n cap : Nat) (f : Nat → T) (h : Rd w a n cap f) :
    Calls Try.prog 11 #[.slice a n cap] w fun r w' => ∃ v, r = .returned (.tuple #[v, .bool (mapRound f n).2]) ∧ Below w.heap.size w w' ∧ w'.ownsRow w.heap.size 39 5 v (mapRound f n).1.length (cellsL (mapRound f n).1) := by
  have HA := Hid.mk' h
  have hn : (n : Int) ≤ 140737488351232 := by have := h.2.1; omega
  have hO0 := owns_none w w.heap.size (Nat.le_refl _)
  have hB0 := bel_one w (.cells #[] 39)
  clear h
  cases hpa : polOk n f
  · have e1 : mapRound f n = ([], false) := by simp [mapRound, mapV, hpa]
    rw [e1]
    go_enter Try.func11, Try.ntmps11
    go_wp2_with (go_at_call 23; refine (polOkS _ _ _ _ f (HA.out.below hB0)).mono ?_; rw [hpa]; rintro r w1 ⟨rfl, hb1⟩; have HB1 := Hid.mk' (bel_next hB0 hb1); have HO1 := Hid.mk' (owns_below hO0 hb1); clear hb1)
    go_loopw [4, 5, 6] (fun v ok ii wr => ok = .bool false ∧ ii = .int .i64 0 ∧ wr.ownsRow w.heap.size 39 5 v 0 (cellsL []) ∧ Below w.heap.size w wr) (fun _ _ _ _ => 0)
    case atStart => exact ⟨rfl, rfl, HO1.out, HB1.out⟩
    case round =>
      obtain ⟨rfl, rfl, hown, hbl⟩ := hrel
      by_cases h0 : n = 0
      · subst h0
        go_wp2
        refine bodyPost_ret (results_tmp2 rfl _ _ _) rfl ?_
        exact ⟨_, rfl, hbl, hown⟩
      · have hpos : (0 : Int) < (n : Int) := by omega
        go_wp2
        refine bodyPost_ret (results_tmp2 rfl _ _ _) rfl ?_
        exact ⟨_, rfl, hbl, hown⟩
  · have e1 : mapRound f n = mulO (eachM stMapRound f n) := by simp [mapRound, mapV, hpa]
    rw [e1]
    clear e1
    have l1 := (good_ok hpa).1
    have HPA := Hid.mk' hpa
    go_enter Try.func11, Try.ntmps11
    go_wp2_with (go_at_call 23; refine (polOkS _ _ _ _ f (HA.out.below hB0)).mono ?_; rw [hpa]; rintro r w1 ⟨rfl, hb1⟩; have HB1 := Hid.mk' (bel_next hB0 hb1); have HO1 := Hid.mk' (owns_below hO0 hb1); clear hb1)
    go_loopw [4, 5, 6] (fun v ok ii wr => ∃ i : Nat, i ≤ n ∧ ii = .int .i64 (i : Int) ∧ Below w.heap.size w wr ∧ ((∃ K, ok = .bool true ∧ eachM stMapRound f i = some K ∧ Falls K ∧ wr.ownsRow w.heap.size 39 5 v K.length (cellsL K)) ∨ (ok = .bool false ∧ eachM stMapRound f n = none ∧ wr.ownsRow w.heap.size 39 5 v 0 (cellsL [])))) (fun _ _ ii _ => n - (intOf ii).toNat)
    case atStart => exact ⟨0, Nat.zero_le _, rfl, HB1.out, .inl ⟨[], rfl, rfl, falls_nil, HO1.out⟩⟩
    case round =>
      obtain ⟨i, hi, rfl, hbl, hcase⟩ := hrel
      rcases hcase with ⟨K, rfl, hM, hKf, hown⟩ | ⟨rfl, hM, hown⟩
      · by_cases hlt : i < n
        · have hil : (i : Int) < (n : Int) := by omega
          have hfi := (fl_of_ok HPA.out).2 i hlt
          have hKl := eachM_len i K hM
          have HM := Hid.mk' hM
          have HOWN := Hid.mk' hown
          have HBL := Hid.mk' hbl
          clear hown hbl hM
          have hri := HA.out.below HBL.out
          rcases hri.2.2 with h0 | ⟨pb, off, hpe, hblt, hcl⟩
          · omega
          subst hpe
          obtain ⟨g0, g1, g2, g3, g4⟩ := hcl i hlt
          clear hcl hri
          have hdb := M.ok_iff.1 hfi.1
          obtain ⟨o1, o2⟩ := rnd_ok hfi.1
          have hsr := sg_range (f i) ((f i).m.d + (f i).m.e)
          have hwr : IntKind.i64.wrap ((f i).m.d + (f i).m.e) = (f i).m.d + (f i).m.e := by rw [IntKind.wrap_i64]; omega
          have hsg := sgn_range ((f i).m.d + (f i).m.e)
          have hmb := mul_bd (show 0 ≤ (f i).c by omega) hfi.2.2 hsg.1 hsg.2
          have hwm : IntKind.i64.wrap ((f i).c * sgn ((f i).m.d + (f i).m.e)) = (f i).c * sgn ((f i).m.d + (f i).m.e) := by rw [IntKind.wrap_i64]; omega
          have htm : ((f i).c * sgn ((f i).m.d + (f i).m.e)).tmod 101 = sg (f i) ((f i).m.d + (f i).m.e) := Int.tmod_eq_emod_of_nonneg hmb.1
          have hsign : ∀ u : World, Calls Try.prog 42 #[.int .i64 ((f i).m.d + (f i).m.e)] u fun e w' => e = .returned (.int .i64 (sgn ((f i).m.d + (f i).m.e))) ∧ w' = u := fun u => l5SignS _ u (by omega) (by omega)
          have hok : ((rndA (f i)).m.sum (rndB (f i)).m).ok = true := M.ok_iff.2 (by dsimp only [rndA, rndB, M.sum]; omega)
          have hTwo : Two (rndA (f i)) (rndB (f i)) ((rndA (f i)).m.sum (rndB (f i)).m) := Two.of o1 o2 hok hsr ⟨show (0 : Int) ≤ 1 by decide, show (1 : Int) ≤ 100 by decide⟩
          have hfK := (addL_facts hKf (pairL_facts hTwo).1).1
          clear hsg hmb hfi
          go_wp2_with fail
          have hq := M4.box wr 37 (f i).m.x (f i).m.y (f i).m.d (f i).m.e
          obtain ⟨q0, q1, q2, q3⟩ := hq
          have g5 := ((bel_one wr (.cells #[.int .i64 (f i).m.x, .int .i64 (f i).m.y, .int .i64 (f i).m.d, .int .i64 (f i).m.e] 37)).cell (p := ⟨pb, off + i * 5, none⟩) hblt).trans g0
          have HBQ := Hid.mk' (bel_next HBL.out (bel_one wr (.cells #[.int .i64 (f i).m.x, .int .i64 (f i).m.y, .int .i64 (f i).m.d, .int .i64 (f i).m.e] 37)))
          have HOQ := Hid.mk' (owns_below HOWN.out (bel_one wr (.cells #[.int .i64 (f i).m.x, .int .i64 (f i).m.y, .int .i64 (f i).m.d, .int .i64 (f i).m.e] 37)))
          have hqs : (wr.alloc (.cells #[.int .i64 (f i).m.x, .int .i64 (f i).m.y, .int .i64 (f i).m.d, .int .i64 (f i).m.e] 37)).heap.size = wr.heap.size + 1 := by simp
          clear g0 g1 g2 g3 g4
          generalize wr.alloc (.cells #[.int .i64 (f i).m.x, .int .i64 (f i).m.y, .int .i64 (f i).m.d, .int .i64 (f i).m.e] 37) = wq at hqs HBQ HOQ q0 q1 q2 q3 g5 ⊢
          have HPUT := Hid.mk' (l5PutS wq.drew w.heap.size _ K (rndA (f i)) (rndB (f i)) (owns_below HOQ.out (Below.refl _ _).drew) HBQ.out.drew.size hKl hKf ⟨o1, hsr⟩ ⟨o2, rfl⟩)
          have hpbq : pb < wq.drew.heap.size := by show pb < wq.heap.size; rw [hqs]; omega
          have hb1q : wr.heap.size < wq.drew.heap.size := by show wr.heap.size < wq.heap.size; omega
          have hS0 : P5 pb (off + i * 5) wr.heap.size (f i) wq.drew := ⟨g5, q0, q1, q2, q3⟩
          go_region_held3 (fun u => u.cell? ⟨pb, off + i * 5, none⟩ = some (.int .i64 (f i).c) ∧ u.cell? ⟨wr.heap.size, 0, none⟩ = some (.int .i64 (f i).m.x) ∧ u.cell? ⟨wr.heap.size, 1, none⟩ = some (.int .i64 (f i).m.y) ∧ u.cell? ⟨wr.heap.size, 2, none⟩ = some (.int .i64 (f i).m.d) ∧ u.cell? ⟨wr.heap.size, 3, none⟩ = some (.int .i64 (f i).m.e)) (first | with_reducible exact hS0 | with_reducible exact P5.below hS0 (by assumption) hpbq hb1q) (first | (go_at_call 42; refine (hsign _).mono ?_; rintro e w' ⟨rfl, hw'⟩; obtain rfl := hw'.symm; clear hw') | (go_at_call 41; refine HPUT.out.mono ?_; rintro e w4 ⟨v4, rfl, hb4, ho4⟩; have HB4 : Hid (Below w.heap.size w w4) := (bel_next HBQ.out.drew hb4); have HO4 := Hid.mk' ho4; clear ho4))
          all_goals
            go_wp2
            go_roundw
            case rel =>
              refine ⟨i + 1, by omega, by go_num, HB4.out, ?_⟩
              have ho5 := HO4.out
              cases hst : stepM K (rndA (f i)) (rndB (f i)) with
              | none =>
                rw [hst] at ho5
                exact .inr ⟨rfl, eachM_none (i := i + 1) (by rw [eachM, HM.out]; show (stepM K (rndA (f i)) (rndB (f i))).bind lim4 = none; rw [hst]; rfl) n (by omega), ho5⟩
              | some K' =>
                rw [hst] at ho5
                have hK' : (addL K (pairL (rndA (f i)) (rndB (f i)))).length ≤ 400 ∧ addL K (pairL (rndA (f i)) (rndB (f i))) = K' := by
                  unfold stepM at hst
                  split at hst
                  · rename_i hh; exact ⟨hh.2, Option.some.inj hst⟩
                  · cases hst
                refine .inl ⟨K', rfl, ?_, hK'.2 ▸ hfK, ho5⟩
                rw [eachM, HM.out]
                show (stepM K (rndA (f i)) (rndB (f i))).bind lim4 = _
                rw [hst]
                exact if_pos (hK'.2 ▸ hK'.1)
            case measure => simp [intOf]; omega
        · obtain rfl : i = n := by omega
          have HOWN := Hid.mk' hown
          have HBL := Hid.mk' hbl
          have HM := Hid.mk' hM
          clear hown hbl hM
          go_wp2
          refine bodyPost_ret (results_tmp2 rfl _ _ _) rfl ?_
          rw [HM.out]
          exact ⟨_, rfl, HBL.out, HOWN.out⟩
      · have HOWN := Hid.mk' hown
        have HBL := Hid.mk' hbl
        have HM := Hid.mk' hM
        clear hown hbl hM
        by_cases hlt : i < n
        · have hil : (i : Int) < (n : Int) := by omega
          go_wp2
          refine bodyPost_ret (results_tmp2 rfl _ _ _) rfl ?_
          rw [HM.out]
          exact ⟨_, rfl, HBL.out, HOWN.out⟩
        · obtain rfl : i = n := by omega
          go_wp2
          refine bodyPost_ret (results_tmp2 rfl _ _ _) rfl ?_
          rw [HM.out]
          exact ⟨_, rfl, HBL.out, HOWN.out⟩
def mapBack (f : Nat → T) (n : Nat) : List T × Bool := mapV stMapBack f n
theorem mapBack_len (f : Nat → T) (n : Nat) : (mapBack f n).1.length ≤ 400 := mapV_len _ _ _
set_option maxHeartbeats 1000000 in
theorem mapBackI (w : World) (a : Option Addr) (n cap : Nat) (f : Nat → T) (ha : Rd w a n cap f) :
    Calls Try.prog 17 #[.slice a n cap] w fun r w' => ∃ a' cap', r = .returned (.tuple #[.slice a' (mapBack f n).1.length cap', .bool (mapBack f n).2]) ∧ Below w.heap.size w w' ∧ Out w.heap.size w' a' cap' (mapBack f n).1 := by
  have hc := mapEachV w a n cap f 48 #[] stMapBack (fun _ => True) (enters_of Try.func48 (by kernel_rfl) rfl) bckTurns (fun _ _ _ _ _ _ => trivial) (fun _ _ _ => trivial) trivial ha
  change Calls Try.prog 37 #[.slice a n cap, .func (.func 48) #[] #[]] w fun r w' => ∃ v, r = .returned (.tuple #[v, .bool (mapBack f n).2]) ∧ Below w.heap.size w w' ∧ w'.ownsRow w.heap.size 39 5 v (mapBack f n).1.length (cellsL (mapBack f n).1) at hc
  have hlen := mapBack_len f n
  generalize mapBack f n = V at hc hlen ⊢
  go_enter Try.func17, Try.ntmps17
  go_wp2_with (go_at_call 37; refine hc.mono ?_; rintro r w1 ⟨v, rfl, hb1, ho1⟩)
  refine bodyPost_ret (results_tmp2 rfl _ _ _) rfl ?_
  obtain ⟨a', cap', rfl, hout⟩ := out_of_owns ho1 (by omega)
  exact ⟨a', cap', rfl, hb1, hout⟩
set_option maxRecDepth 100000 in
set_option maxHeartbeats 16000000 in
theorem mapBackS (w : World) (a : Option Addr) (n cap : Nat) (f : Nat → T) (h : Rd w a n cap f) :
    Calls Try.prog 18 #[.slice a n cap] w fun r w' => ∃ v, r = .returned (.tuple #[v, .bool (mapBack f n).2]) ∧ Below w.heap.size w w' ∧ w'.ownsRow w.heap.size 39 5 v (mapBack f n).1.length (cellsL (mapBack f n).1) := by
  have HA := Hid.mk' h
  have hn : (n : Int) ≤ 140737488351232 := by have := h.2.1; omega
  have hO0 := owns_none w w.heap.size (Nat.le_refl _)
  have hB0 := bel_one w (.cells #[] 39)
  clear h
  cases hpa : polOk n f
  · have e1 : mapBack f n = ([], false) := by simp [mapBack, mapV, hpa]
    rw [e1]
    go_enter Try.func18, Try.ntmps18
    go_wp2_with (go_at_call 23; refine (polOkS _ _ _ _ f (HA.out.below hB0)).mono ?_; rw [hpa]; rintro r w1 ⟨rfl, hb1⟩; have HB1 := Hid.mk' (bel_next hB0 hb1); have HO1 := Hid.mk' (owns_below hO0 hb1); clear hb1)
    go_loopw [4, 5, 6] (fun v ok ii wr => ok = .bool false ∧ ii = .int .i64 0 ∧ wr.ownsRow w.heap.size 39 5 v 0 (cellsL []) ∧ Below w.heap.size w wr) (fun _ _ _ _ => 0)
    case atStart => exact ⟨rfl, rfl, HO1.out, HB1.out⟩
    case round =>
      obtain ⟨rfl, rfl, hown, hbl⟩ := hrel
      by_cases h0 : n = 0
      · subst h0
        go_wp2
        refine bodyPost_ret (results_tmp2 rfl _ _ _) rfl ?_
        exact ⟨_, rfl, hbl, hown⟩
      · have hpos : (0 : Int) < (n : Int) := by omega
        go_wp2
        refine bodyPost_ret (results_tmp2 rfl _ _ _) rfl ?_
        exact ⟨_, rfl, hbl, hown⟩
  · have e1 : mapBack f n = mulO (eachM stMapBack f n) := by simp [mapBack, mapV, hpa]
    rw [e1]
    clear e1
    have l1 := (good_ok hpa).1
    have HPA := Hid.mk' hpa
    go_enter Try.func18, Try.ntmps18
    go_wp2_with (go_at_call 23; refine (polOkS _ _ _ _ f (HA.out.below hB0)).mono ?_; rw [hpa]; rintro r w1 ⟨rfl, hb1⟩; have HB1 := Hid.mk' (bel_next hB0 hb1); have HO1 := Hid.mk' (owns_below hO0 hb1); clear hb1)
    go_loopw [4, 5, 6] (fun v ok ii wr => ∃ i : Nat, i ≤ n ∧ ii = .int .i64 (i : Int) ∧ Below w.heap.size w wr ∧ ((∃ K, ok = .bool true ∧ eachM stMapBack f i = some K ∧ Falls K ∧ wr.ownsRow w.heap.size 39 5 v K.length (cellsL K)) ∨ (ok = .bool false ∧ eachM stMapBack f n = none ∧ wr.ownsRow w.heap.size 39 5 v 0 (cellsL [])))) (fun _ _ ii _ => n - (intOf ii).toNat)
    case atStart => exact ⟨0, Nat.zero_le _, rfl, HB1.out, .inl ⟨[], rfl, rfl, falls_nil, HO1.out⟩⟩
    case round =>
      obtain ⟨i, hi, rfl, hbl, hcase⟩ := hrel
      rcases hcase with ⟨K, rfl, hM, hKf, hown⟩ | ⟨rfl, hM, hown⟩
      · by_cases hlt : i < n
        · have hil : (i : Int) < (n : Int) := by omega
          have hfi := (fl_of_ok HPA.out).2 i hlt
          have hKl := eachM_len i K hM
          have HM := Hid.mk' hM
          have HOWN := Hid.mk' hown
          have HBL := Hid.mk' hbl
          clear hown hbl hM
          have hri := HA.out.below HBL.out
          rcases hri.2.2 with h0 | ⟨pb, off, hpe, hblt, hcl⟩
          · omega
          subst hpe
          obtain ⟨g0, g1, g2, g3, g4⟩ := hcl i hlt
          clear hcl hri
          have hdb := M.ok_iff.1 hfi.1
          obtain ⟨o1, o2⟩ := bck_ok hfi.1
          have hsr := sg_range (f i) ((f i).m.d + (f i).m.e)
          have hwr : IntKind.i64.wrap ((f i).m.d + (f i).m.e) = (f i).m.d + (f i).m.e := by rw [IntKind.wrap_i64]; omega
          have hsg := sgn_range ((f i).m.d + (f i).m.e)
          have hmb := mul_bd (show 0 ≤ (f i).c by omega) hfi.2.2 hsg.1 hsg.2
          have hwm : IntKind.i64.wrap ((f i).c * sgn ((f i).m.d + (f i).m.e)) = (f i).c * sgn ((f i).m.d + (f i).m.e) := by rw [IntKind.wrap_i64]; omega
          have htm : ((f i).c * sgn ((f i).m.d + (f i).m.e)).tmod 101 = sg (f i) ((f i).m.d + (f i).m.e) := Int.tmod_eq_emod_of_nonneg hmb.1
          have hsign : ∀ u : World, Calls Try.prog 42 #[.int .i64 ((f i).m.d + (f i).m.e)] u fun e w' => e = .returned (.int .i64 (sgn ((f i).m.d + (f i).m.e))) ∧ w' = u := fun u => l5SignS _ u (by omega) (by omega)
          have hok : ((bckA (f i)).m.sum (bckB (f i)).m).ok = true := M.ok_iff.2 (by dsimp only [bckA, bckB, M.sum]; omega)
          have hTwo : Two (bckA (f i)) (bckB (f i)) ((bckA (f i)).m.sum (bckB (f i)).m) := Two.of o1 o2 hok hsr ⟨show (0 : Int) ≤ 1 by decide, show (1 : Int) ≤ 100 by decide⟩
          have hfK := (addL_facts hKf (pairL_facts hTwo).1).1
          clear hsg hmb hfi
          go_wp2_with fail
          have hq := M4.box wr 37 (f i).m.x (f i).m.y (f i).m.d (f i).m.e
          obtain ⟨q0, q1, q2, q3⟩ := hq
          have g5 := ((bel_one wr (.cells #[.int .i64 (f i).m.x, .int .i64 (f i).m.y, .int .i64 (f i).m.d, .int .i64 (f i).m.e] 37)).cell (p := ⟨pb, off + i * 5, none⟩) hblt).trans g0
          have HBQ := Hid.mk' (bel_next HBL.out (bel_one wr (.cells #[.int .i64 (f i).m.x, .int .i64 (f i).m.y, .int .i64 (f i).m.d, .int .i64 (f i).m.e] 37)))
          have HOQ := Hid.mk' (owns_below HOWN.out (bel_one wr (.cells #[.int .i64 (f i).m.x, .int .i64 (f i).m.y, .int .i64 (f i).m.d, .int .i64 (f i).m.e] 37)))
          have hqs : (wr.alloc (.cells #[.int .i64 (f i).m.x, .int .i64 (f i).m.y, .int .i64 (f i).m.d, .int .i64 (f i).m.e] 37)).heap.size = wr.heap.size + 1 := by simp
          clear g0 g1 g2 g3 g4
          generalize wr.alloc (.cells #[.int .i64 (f i).m.x, .int .i64 (f i).m.y, .int .i64 (f i).m.d, .int .i64 (f i).m.e] 37) = wq at hqs HBQ HOQ q0 q1 q2 q3 g5 ⊢
          have HPUT := Hid.mk' (l5PutS wq.drew w.heap.size _ K (bckA (f i)) (bckB (f i)) (owns_below HOQ.out (Below.refl _ _).drew) HBQ.out.drew.size hKl hKf ⟨o1, hsr⟩ ⟨o2, rfl⟩)
          have hpbq : pb < wq.drew.heap.size := by show pb < wq.heap.size; rw [hqs]; omega
          have hb1q : wr.heap.size < wq.drew.heap.size := by show wr.heap.size < wq.heap.size; omega
          have hS0 : P5 pb (off + i * 5) wr.heap.size (f i) wq.drew := ⟨g5, q0, q1, q2, q3⟩
          go_region_held3 (fun u => u.cell? ⟨pb, off + i * 5, none⟩ = some (.int .i64 (f i).c) ∧ u.cell? ⟨wr.heap.size, 0, none⟩ = some (.int .i64 (f i).m.x) ∧ u.cell? ⟨wr.heap.size, 1, none⟩ = some (.int .i64 (f i).m.y) ∧ u.cell? ⟨wr.heap.size, 2, none⟩ = some (.int .i64 (f i).m.d) ∧ u.cell? ⟨wr.heap.size, 3, none⟩ = some (.int .i64 (f i).m.e)) (first | with_reducible exact hS0 | with_reducible exact P5.below hS0 (by assumption) hpbq hb1q) (first | (go_at_call 42; refine (hsign _).mono ?_; rintro e w' ⟨rfl, hw'⟩; obtain rfl := hw'.symm; clear hw') | (go_at_call 41; refine HPUT.out.mono ?_; rintro e w4 ⟨v4, rfl, hb4, ho4⟩; have HB4 : Hid (Below w.heap.size w w4) := (bel_next HBQ.out.drew hb4); have HO4 := Hid.mk' ho4; clear ho4))
          all_goals
            go_wp2
            go_roundw
            case rel =>
              refine ⟨i + 1, by omega, by go_num, HB4.out, ?_⟩
              have ho5 := HO4.out
              cases hst : stepM K (bckA (f i)) (bckB (f i)) with
              | none =>
                rw [hst] at ho5
                exact .inr ⟨rfl, eachM_none (i := i + 1) (by rw [eachM, HM.out]; show (stepM K (bckA (f i)) (bckB (f i))).bind lim4 = none; rw [hst]; rfl) n (by omega), ho5⟩
              | some K' =>
                rw [hst] at ho5
                have hK' : (addL K (pairL (bckA (f i)) (bckB (f i)))).length ≤ 400 ∧ addL K (pairL (bckA (f i)) (bckB (f i))) = K' := by
                  unfold stepM at hst
                  split at hst
                  · rename_i hh; exact ⟨hh.2, Option.some.inj hst⟩
                  · cases hst
                refine .inl ⟨K', rfl, ?_, hK'.2 ▸ hfK, ho5⟩
                rw [eachM, HM.out]
                show (stepM K (bckA (f i)) (bckB (f i))).bind lim4 = _
                rw [hst]
                exact if_pos (hK'.2 ▸ hK'.1)
            case measure => simp [intOf]; omega
        · obtain rfl : i = n := by omega
          have HOWN := Hid.mk' hown
          have HBL := Hid.mk' hbl
          have HM := Hid.mk' hM
          clear hown hbl hM
          go_wp2
          refine bodyPost_ret (results_tmp2 rfl _ _ _) rfl ?_
          rw [HM.out]
          exact ⟨_, rfl, HBL.out, HOWN.out⟩
      · have HOWN := Hid.mk' hown
        have HBL := Hid.mk' hbl
        have HM := Hid.mk' hM
        clear hown hbl hM
        by_cases hlt : i < n
        · have hil : (i : Int) < (n : Int) := by omega
          go_wp2
          refine bodyPost_ret (results_tmp2 rfl _ _ _) rfl ?_
          rw [HM.out]
          exact ⟨_, rfl, HBL.out, HOWN.out⟩
        · obtain rfl : i = n := by omega
          go_wp2
          refine bodyPost_ret (results_tmp2 rfl _ _ _) rfl ?_
          rw [HM.out]
          exact ⟨_, rfl, HBL.out, HOWN.out⟩
end Go.Proofs.Ytfcmkkagjkkgjaa
