/-
  The first pair for the second one: the program and the model.
-/
import Derived.Test.YtahbekfhoidgjavMapEach
import Derived.Deep.RegionHeld3
namespace Go.Proofs.Ytahbekfhoidgjav
open Go.RowKit Go.Maps
set_option linter.unusedVariables false

def swapM (m : M) : M := ⟨m.y, m.x, m.e, m.d⟩
theorem swapM_ok {m : M} (h : m.ok = true) : (swapM m).ok = true := by
  obtain ⟨x1, x2, y1, y2, d1, d2, e1, e2⟩ := M.ok_iff.1 h
  exact M.ok_iff.2 ⟨y1, y2, x1, x2, e1, e2, d1, d2⟩
def stSwap (K : List T) (t : T) : Option (List T) := some (putT t.c (swapM t.m) K)
set_option maxHeartbeats 1000000 in
theorem swapTurns : Turns 56 #[] stSwap (fun _ => True) := by
  intro W b c K t hS hK hKc hl ht _
  have hm := swapM_ok ht.1
  have hput := putT_facts hK hm (by omega) ht.2.2
  have hcr := hS.range
  have HS := Hid.mk' (hS.grown (World.grownBy_alloc W (.cells #[.int .i64 t.c, .int .i64 t.m.x, .int .i64 t.m.y, .int .i64 t.m.d, .int .i64 t.m.e] 42) none) (by simp))
  have HADD := Hid.mk' (sumAddR b 65536 c t.c (swapM t.m) _ hm HS.out (by unfold maxLen; omega) (by omega) ht.2.2)
  clear hS
  show Calls Try.prog 56 #[.map (some b), .agg #[.int .i64 t.c, .int .i64 t.m.x, .int .i64 t.m.y, .int .i64 t.m.d, .int .i64 t.m.e]] W _
  go_enter Try.func56, Try.ntmps56
  go_wp2_with (go_at_call 36; refine HADD.out.mono ?_; rintro r w2 ⟨rfl, hs2, hg2⟩; have HS2 := Hid.mk' hs2.cap; have HG2 := Hid.mk' ((World.grownBy_alloc W (.cells #[.int .i64 t.c, .int .i64 t.m.x, .int .i64 t.m.y, .int .i64 t.m.d, .int .i64 t.m.e] 42) (some b)).trans hg2); clear hs2 hg2)
  go_ret
  refine ⟨HG2.out, .inl ⟨_, _, rfl, rfl, HS2.out, hput.1, fun m hmo => ?_⟩⟩
  rw [hput.2]
  unfold updC
  split
  · rw [hKc _ hm]
  · exact hKc m hmo
/-- the sum of what the first i terms are swapped into. -/
def swapL (f : Nat → T) : Nat → List T
  | 0 => []
  | i + 1 => putT (f i).c (swapM (f i).m) (swapL f i)
theorem swapL_len (f : Nat → T) : ∀ i, (swapL f i).length ≤ i
  | 0 => Nat.le_refl _
  | i + 1 => by have h1 := swapL_len f i; have h2 := putT_len (f i).c (swapM (f i).m) (swapL f i); show (putT _ _ _).length ≤ _; omega
theorem swapL_each (f : Nat → T) : ∀ i, i ≤ 400 → eachM stSwap f i = some (swapL f i)
  | 0, _ => rfl
  | i + 1, h => by
    rw [eachM, swapL_each f i (by omega)]
    show lim4 (swapL f (i + 1)) = _
    exact if_pos (Nat.le_trans (swapL_len f (i + 1)) h)
def mapSwap (f : Nat → T) (n : Nat) : List T := if polOk n f = true then swapL f n else []
theorem mapSwap_is (f : Nat → T) (n : Nat) : (mapV stSwap f n).1 = mapSwap f n := by
  unfold mapV mapSwap
  split
  · rename_i h
    rw [swapL_each f n (good_ok h).1]
    rfl
  · rfl
theorem mapSwap_len (f : Nat → T) (n : Nat) : (mapSwap f n).length ≤ 400 := by rw [← mapSwap_is]; exact mapV_len _ _ _
theorem swapL_falls {f : Nat → T} {n : Nat} (h : polOk n f = true) : ∀ i, i ≤ n → Falls (swapL f i)
  | 0, _ => falls_nil
  | i + 1, hi => by
    have h1 := (fl_of_ok h).2 i (by omega)
    exact (putT_facts (swapL_falls h i (by omega)) (swapM_ok h1.1) (by omega) h1.2.2).1
set_option maxHeartbeats 1000000 in
theorem mapSwapI (w : World) (a : Option Addr) (n cap : Nat) (f : Nat → T) (ha : Rd w a n cap f) :
    Calls Try.prog 25 #[.slice a n cap] w fun r w' => ∃ a' cap', r = .returned (.slice a' (mapSwap f n).length cap') ∧ Below w.heap.size w w' ∧ Out w.heap.size w' a' cap' (mapSwap f n) := by
  have hc := mapEachV w a n cap f 56 #[] stSwap (fun _ => True) (enters_of Try.func56 (by kernel_rfl) rfl) swapTurns (fun _ _ _ _ _ _ => trivial) (fun _ _ _ => trivial) trivial ha
  rw [mapSwap_is] at hc
  have hlen := mapSwap_len f n
  go_enter Try.func25, Try.ntmps25
  go_wp2_with (go_at_call 51; refine hc.mono ?_; rintro r w1 ⟨v, rfl, hb1, ho1⟩)
  go_ret
  obtain ⟨a', cap', rfl, hout⟩ := out_of_owns ho1 (by omega)
  exact ⟨a', cap', rfl, hb1, hout⟩
def S5 (pb o b : Nat) (t : T) (u : World) : Prop := u.cell? ⟨pb, o, none⟩ = some (.int .i64 t.c) ∧ u.cell? ⟨b, 0, none⟩ = some (.int .i64 t.m.x) ∧ u.cell? ⟨b, 1, none⟩ = some (.int .i64 t.m.y) ∧ u.cell? ⟨b, 2, none⟩ = some (.int .i64 t.m.d) ∧ u.cell? ⟨b, 3, none⟩ = some (.int .i64 t.m.e)
theorem S5.below {pb o b : Nat} {t : T} {u u' : World} (h : S5 pb o b t u) (hb : Below u.heap.size u u') (h1 : pb < u.heap.size) (h2 : b < u.heap.size) : S5 pb o b t u' :=
  ⟨(hb.cell (p := ⟨pb, o, none⟩) h1).trans h.1, (hb.cell (p := ⟨b, 0, none⟩) h2).trans h.2.1, (hb.cell (p := ⟨b, 1, none⟩) h2).trans h.2.2.1, (hb.cell (p := ⟨b, 2, none⟩) h2).trans h.2.2.2.1, (hb.cell (p := ⟨b, 3, none⟩) h2).trans h.2.2.2.2⟩
set_option maxRecDepth 100000 in
set_option maxHeartbeats 16000000 in
theorem mapSwapS (w : World) (a : Option Addr) (n cap : Nat) (f : Nat → T) (h : Rd w a n cap f) :
    Calls Try.prog 24 #[.slice a n cap] w fun r w' => ∃ v, r = .returned v ∧ Below w.heap.size w w' ∧ w'.ownsRow w.heap.size 42 5 v (mapSwap f n).length (cellsL (mapSwap f n)) := by
  have HA := Hid.mk' h
  have hn : (n : Int) ≤ 140737488351232 := by have := h.2.1; omega
  have hO0 := owns_none w w.heap.size (Nat.le_refl _)
  have hB0 := bel_one w (.cells #[] 42)
  clear h
  cases hpa : polOk n f
  · have e1 : mapSwap f n = [] := by simp [mapSwap, hpa]
    rw [e1]
    go_enter Try.func24, Try.ntmps24
    go_wp2
    generalize w.alloc (.cells #[] 42) = w0 at *
    go_loopw [3, 4] (fun v ii wr => ii = .int .i64 0 ∧ wr.ownsRow w.heap.size 42 5 v 0 (cellsL []) ∧ Below w.heap.size w wr) (fun _ _ _ => 0)
    case atStart => exact ⟨rfl, hO0, hB0⟩
    case round =>
      obtain ⟨rfl, hown, hbl⟩ := hrel
      by_cases h0 : n = 0
      · subst h0
        go_wp2
        go_ret
        exact ⟨_, rfl, hbl, hown⟩
      · have hpos : (0 : Int) < (n : Int) := by omega
        have HOWN := Hid.mk' hown
        have HBL := Hid.mk' hbl
        clear hown hbl
        go_wp2_with (go_at_call 26; refine (polOkS _ _ _ _ f (HA.out.below HBL.out)).mono ?_; rw [hpa]; rintro r w1 ⟨rfl, hb1⟩; have HB1 := Hid.mk' hb1; clear hb1)
        go_ret
        exact ⟨_, rfl, bel_next HBL.out HB1.out, owns_below HOWN.out HB1.out⟩
  · have e1 : mapSwap f n = swapL f n := by simp [mapSwap, hpa]
    rw [e1]
    have l1 := (good_ok hpa).1
    have HPA := Hid.mk' hpa
    go_enter Try.func24, Try.ntmps24
    go_wp2
    generalize w.alloc (.cells #[] 42) = w0 at *
    go_loopw [3, 4] (fun v ii wr => ∃ i : Nat, i ≤ n ∧ ii = .int .i64 (i : Int) ∧ wr.ownsRow w.heap.size 42 5 v (swapL f i).length (cellsL (swapL f i)) ∧ Below w.heap.size w wr) (fun _ ii _ => n - (intOf ii).toNat)
    case atStart => exact ⟨0, Nat.zero_le _, rfl, hO0, hB0⟩
    case round =>
      obtain ⟨i, hi, rfl, hown, hbl⟩ := hrel
      by_cases hlt : i < n
      · have hil : (i : Int) < (n : Int) := by omega
        have hfi := (fl_of_ok HPA.out).2 i hlt
        have hsl := swapL_len f i
        have hfl := swapL_falls HPA.out i (by omega)
        have HOWN := Hid.mk' hown
        have HBL := Hid.mk' hbl
        clear hown hbl
        have hri := HA.out.below HBL.out
        rcases hri.2.2 with h0 | ⟨pb, off, hpe, hblt, hcl⟩
        · omega
        subst hpe
        clear hcl hri
        go_wp2_with (go_at_call 26; refine (polOkS _ _ _ _ f (HA.out.below HBL.out)).mono ?_; rw [hpa]; rintro r w1 ⟨rfl, hb1⟩; have HB1 := Hid.mk' hb1; have HB1w := Hid.mk' (bel_next HBL.out hb1); have hr1 := HA.out.below HB1w.out; have hc1 := (hr1.2.2.resolve_left (by omega)); obtain ⟨pb', off', hpe', hblt', hcl'⟩ := hc1; cases hpe'; obtain ⟨g0, g1, g2, g3, g4⟩ := hcl' i hlt; clear hb1 hr1 hcl')
        have hq := M4.box w1 40 (f i).m.x (f i).m.y (f i).m.d (f i).m.e
        obtain ⟨q0, q1, q2, q3⟩ := hq
        have g5 := ((bel_one w1 (.cells #[.int .i64 (f i).m.x, .int .i64 (f i).m.y, .int .i64 (f i).m.d, .int .i64 (f i).m.e] 40)).cell (p := ⟨pb, off + i * 5, none⟩) hblt').trans g0
        have HBQ := Hid.mk' (bel_next HB1w.out (bel_one w1 (.cells #[.int .i64 (f i).m.x, .int .i64 (f i).m.y, .int .i64 (f i).m.d, .int .i64 (f i).m.e] 40)))
        have HOQ := Hid.mk' (owns_below (owns_below HOWN.out HB1.out) (bel_one w1 (.cells #[.int .i64 (f i).m.x, .int .i64 (f i).m.y, .int .i64 (f i).m.d, .int .i64 (f i).m.e] 40)))
        have hqs : (w1.alloc (.cells #[.int .i64 (f i).m.x, .int .i64 (f i).m.y, .int .i64 (f i).m.d, .int .i64 (f i).m.e] 40)).heap.size = w1.heap.size + 1 := by simp
        clear g0 g1 g2 g3 g4
        generalize w1.alloc (.cells #[.int .i64 (f i).m.x, .int .i64 (f i).m.y, .int .i64 (f i).m.d, .int .i64 (f i).m.e] 40) = wq at hqs HBQ HOQ q0 q1 q2 q3 g5 ⊢
        have HPUT := Hid.mk' (l4PutS wq.drew w.heap.size _ (swapL f i) (f i).c (f i).m.y (f i).m.x (f i).m.e (f i).m.d (owns_below HOQ.out (Below.refl _ _).drew) HBQ.out.drew.size (by omega) (cok_falls hfl) (by omega) hfi.2.2)
        have hpbq : pb < wq.heap.size := by rw [hqs]; omega
        have hb1q : w1.heap.size < wq.heap.size := by omega
        have hS0 : S5 pb (off + i * 5) w1.heap.size (f i) wq.drew := ⟨g5, q0, q1, q2, q3⟩
        go_region_held3 (fun u => u.cell? ⟨pb, off + i * 5, none⟩ = some (.int .i64 (f i).c) ∧ u.cell? ⟨w1.heap.size, 0, none⟩ = some (.int .i64 (f i).m.x) ∧ u.cell? ⟨w1.heap.size, 1, none⟩ = some (.int .i64 (f i).m.y) ∧ u.cell? ⟨w1.heap.size, 2, none⟩ = some (.int .i64 (f i).m.d) ∧ u.cell? ⟨w1.heap.size, 3, none⟩ = some (.int .i64 (f i).m.e)) (first | exact hS0 | exact S5.below hS0 (by assumption) hpbq hb1q) (first | (go_at_call 30; refine HPUT.out.mono ?_; rintro e w4 ⟨v4, rfl, hb4, ho4⟩; have HB4 : Hid (Below w.heap.size w w4) := (bel_next HBQ.out.drew hb4); have HO4 := Hid.mk' ho4; clear ho4))
        all_goals
          go_wp2
          go_roundw
          case rel => exact ⟨i + 1, by omega, by go_num, HO4.out, HB4.out⟩
          case measure => simp [intOf]; omega
      · obtain rfl : i = n := by omega
        have HOWN := Hid.mk' hown
        have HBL := Hid.mk' hbl
        clear hown hbl
        go_wp2
        go_ret
        exact ⟨_, rfl, HBL.out, HOWN.out⟩
end Go.Proofs.Ytahbekfhoidgjav
