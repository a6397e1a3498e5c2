/-
  The greatest term of an operator in an order: the program's function.
  The greatest term of a product in each order, as it is told.
  The least monomial that two divide: the model's and the program's function.
-/
import Derived.Test.YtbicmmbajknceaaGreatGaz
import Derived.Test.YtbicmmbajknceaaGreatGac
import Derived.Test.YtbicmmbajknceaaGreatGad
import Derived.Deep.RegionHeld3
import Derived.Deep.Light
namespace Go.Proofs.YtbicmmbajknceaaGreat
open Go.RowKit
set_option linter.unusedVariables false

theorem c3_pos {a b : Int} : 0 < c3 a b ↔ b < a := by
  unfold c3; constructor
  · intro h; split at h
    · omega
    · split at h <;> omega
  · intro h; rw [if_neg (by omega), if_pos h]; decide
/-- five cells of one block, at its beginning. -/
def C5 (w : World) (b : Nat) (t : T) : Prop :=
  w.cell? ⟨b, 0, none⟩ = some (.int .i64 t.c) ∧ w.cell? ⟨b, 1, none⟩ = some (.int .i64 t.m.x) ∧ w.cell? ⟨b, 2, none⟩ = some (.int .i64 t.m.y) ∧ w.cell? ⟨b, 3, none⟩ = some (.int .i64 t.m.d) ∧ w.cell? ⟨b, 4, none⟩ = some (.int .i64 t.m.e)
theorem C5.lt {w : World} {b : Nat} {t : T} (h : C5 w b t) : b < w.heap.size := World.block_lt_of_cell? w _ h.1
theorem C5.below {w w' : World} {b : Nat} {t : T} (h : C5 w b t) (hb : Below w.heap.size w w') : C5 w' b t := s5_below hb h
theorem C5.box (w : World) (y : TypeId) (t : T) : C5 (w.alloc (.cells #[.int .i64 t.c, .int .i64 t.m.x, .int .i64 t.m.y, .int .i64 t.m.d, .int .i64 t.m.e] y)) w.heap.size t :=
  ⟨by rw [World.cell?_alloc_at _ _ _ _ rfl]; rfl, by rw [World.cell?_alloc_at _ _ _ _ rfl]; rfl, by rw [World.cell?_alloc_at _ _ _ _ rfl]; rfl, by rw [World.cell?_alloc_at _ _ _ _ rfl]; rfl, by rw [World.cell?_alloc_at _ _ _ _ rfl]; rfl⟩
theorem far5 {w : World} {B b o : Nat} {v0 v1 v2 v3 v4 : Value} (h : b ≠ B) : (((((w.setCell ⟨B, 0, none⟩ v0).setCell ⟨B, 1, none⟩ v1).setCell ⟨B, 2, none⟩ v2).setCell ⟨B, 3, none⟩ v3).setCell ⟨B, 4, none⟩ v4).cell? ⟨b, o, none⟩ = w.cell? ⟨b, o, none⟩ := by
  refine World.cell?_of_block ?_
  rw [Below.heap_setCell _ _ _ _ h, Below.heap_setCell _ _ _ _ h, Below.heap_setCell _ _ _ _ h, Below.heap_setCell _ _ _ _ h, Below.heap_setCell _ _ _ _ h]
theorem farz5 {w : World} {B b o : Nat} {v0 v1 v2 v3 v4 : Value} (h : b ≠ B) : (((((w.setCell ⟨B, 0, none⟩ v0).setCell ⟨B, 1, none⟩ v1).setCell ⟨B, 2, none⟩ v2).setCell ⟨B, 3, none⟩ v3).setCell ⟨B, 4, none⟩ v4).frozen? ⟨b, o, none⟩ = w.frozen? ⟨b, o, none⟩ := by
  refine World.frozen?_of_block ?_
  rw [Below.heap_setCell _ _ _ _ h, Below.heap_setCell _ _ _ _ h, Below.heap_setCell _ _ _ _ h, Below.heap_setCell _ _ _ _ h, Below.heap_setCell _ _ _ _ h]
/-- a block of the call's own, five cells that may be written. -/
def Own5 (w : World) (b : Nat) (t : T) : Prop := C5 w b t ∧ ∀ j, w.frozen? ⟨b, j, none⟩ = false
theorem Own5.below {w w' : World} {b : Nat} {t : T} (h : Own5 w b t) (hb : Below w.heap.size w w') : Own5 w' b t := ⟨h.1.below hb, fun j => (hb.frozen (p := ⟨b, j, none⟩) h.1.lt).trans (h.2 j)⟩
theorem Own5.box (w : World) (y : TypeId) (t : T) : Own5 (w.alloc (.cells #[.int .i64 t.c, .int .i64 t.m.x, .int .i64 t.m.y, .int .i64 t.m.d, .int .i64 t.m.e] y)) w.heap.size t :=
  ⟨C5.box w y t, fun j => by rw [World.frozen?_alloc_at _ _ _ _ rfl]⟩
theorem Own5.far {w : World} {B b : Nat} {t : T} {v0 v1 v2 v3 v4 : Value} (m : Own5 w b t) (h : b ≠ B) : Own5 (((((w.setCell ⟨B, 0, none⟩ v0).setCell ⟨B, 1, none⟩ v1).setCell ⟨B, 2, none⟩ v2).setCell ⟨B, 3, none⟩ v3).setCell ⟨B, 4, none⟩ v4) b t :=
  ⟨⟨(far5 h).trans m.1.1, (far5 h).trans m.1.2.1, (far5 h).trans m.1.2.2.1, (far5 h).trans m.1.2.2.2.1, (far5 h).trans m.1.2.2.2.2⟩, fun j => (farz5 h).trans (m.2 j)⟩
def zeroT : T := ⟨0, ⟨0, 0, 0, 0⟩⟩
set_option maxRecDepth 100000 in
set_option maxHeartbeats 8000000 in
theorem polLeadI1 (w : World) (a : Option Addr) (n cap : Nat) (f : Nat → T) (h : Rd w a n cap f) (hp : polOk n f = true) (hpos : 0 < n) :
    Calls Tryz.prog 12 #[.int .i64 1, .slice a n cap] w fun r w' => r = .returned (.tuple #[.agg #[.int .i64 (leadT 1 n f).c, .int .i64 (leadT 1 n f).m.x, .int .i64 (leadT 1 n f).m.y, .int .i64 (leadT 1 n f).m.d, .int .i64 (leadT 1 n f).m.e], .bool (leadOk 1 n f)]) ∧ Below w.heap.size w w' := by
  have HR := Hid.mk' h
  obtain ⟨h1, h2, h3⟩ := h
  have hn : (n : Int) ≤ 140737488351232 := by omega
  have e1 : leadOk 1 n f = true := by simp [leadOk, hp, hpos]
  rw [leadT_yes e1, e1]
  clear e1
  have hne : ((n : Int) == 0) = false := by simp; omega
  have HM := Hid.mk' (polOk_m hp)
  obtain ⟨t, ht⟩ : ∃ t, t = f (leadAt 1 f n) := ⟨_, rfl⟩
  rw [← ht]
  have HT := Hid.mk' ht
  obtain ⟨b, off, rfl, hblt, hcl⟩ := h3.resolve_left (by omega)
  have HCL := Hid.mk' hcl
  clear ht h3 hcl
  have hn1 : (0 : Int) < (n : Int) := by omega
  have hn2 : (1 : Int) ≤ (n : Int) := by omega
  have hn3 : (1 : Int) ≤ (cap : Int) := by omega
  have hn4 : (n : Int) ≤ (cap : Int) := by omega
  have hn5 : 1 ≤ n := by omega
  have hn6 : 1 ≤ cap := by omega
  by_cases hc1 : cap = 1
  · obtain rfl : n = 1 := by omega
    subst hc1
    have ht0 : t = f 0 := HT.out
    subst ht0
    go_enter Tryz.func12, Tryz.ntmps12
    go_wp2_with fail
    refine (ordRankI1 _).mono ?_
    rintro r w1 ⟨rfl, hb1⟩
    have B1 := Hid.mk' (bel_next (bel_one w _) hb1)
    have Z1 := Hid.mk' ((Own5.box w 33 zeroT).below hb1)
    clear hb1
    go_wp2_with fail
    refine (polOkI _ _ _ _ f (HR.out.below B1.out)).mono ?_
    rw [hp]
    rintro r w2 ⟨rfl, hb2⟩
    have B2 := Hid.mk' (bel_next B1.out hb2)
    have Z2 := Hid.mk' (Z1.out.below hb2)
    have zw2 : w.heap.size < w2.heap.size := Z2.out.1.lt
    clear hb2 Z1 HR
    obtain ⟨g0, g1, g2, g3, g4⟩ := (HCL.out 0 hpos).below B2.out hblt
    simp only [Nat.zero_mul, Nat.add_zero] at g0 g1 g2 g3 g4
    go_wp2
    have B3 := Hid.mk' (B2.out.alloc B2.out.size (.cells #[.int .i64 (f 0).c, .int .i64 (f 0).m.x, .int .i64 (f 0).m.y, .int .i64 (f 0).m.d, .int .i64 (f 0).m.e] 33))
    have Z3 := Hid.mk' (Z2.out.below (bel_one w2 (.cells #[.int .i64 (f 0).c, .int .i64 (f 0).m.x, .int .i64 (f 0).m.y, .int .i64 (f 0).m.d, .int .i64 (f 0).m.e] 33)))
    have L3 := Hid.mk' (Own5.box w2 33 (f 0))
    clear g0 g1 g2 g3 g4 Z2
    go_loopw [35] (fun ii wr => ii = .int .i64 0 ∧ Below w.heap.size w wr ∧ Own5 wr w.heap.size zeroT ∧ Own5 wr w2.heap.size (f 0)) (fun _ _ => 0)
    case atStart => exact ⟨rfl, B3.out, Z3.out, L3.out⟩
    case round =>
      obtain ⟨rfl, hB, hZ, hL⟩ := hrel
      obtain ⟨⟨z0, z1, z2, z3, z4⟩, fz⟩ := hZ
      obtain ⟨⟨l0, l1, l2, l3, l4⟩, _⟩ := hL
      simp only [zeroT] at z0 z1 z2 z3 z4
      go_wp2
      refine bodyPost_ret (v := .tuple #[.agg #[.int .i64 (f 0).c, .int .i64 (f 0).m.x, .int .i64 (f 0).m.y, .int .i64 (f 0).m.d, .int .i64 (f 0).m.e], .bool true]) (by simp [results, Tryz.results12, go_sem, *]) rfl ⟨rfl, ?_⟩
      exact bel_s5 hB (Nat.le_refl _) _ _ _ _ _
  go_enter Tryz.func12, Tryz.ntmps12
  go_wp2_with fail
  refine (ordRankI1 _).mono ?_
  rintro r w1 ⟨rfl, hb1⟩
  have B1 := Hid.mk' (bel_next (bel_one w _) hb1)
  have Z1 := Hid.mk' ((Own5.box w 33 zeroT).below hb1)
  clear hb1
  go_wp2_with fail
  refine (polOkI _ _ _ _ f (HR.out.below B1.out)).mono ?_
  rw [hp]
  rintro r w2 ⟨rfl, hb2⟩
  have B2 := Hid.mk' (bel_next B1.out hb2)
  have Z2 := Hid.mk' (Z1.out.below hb2)
  have zw2 : w.heap.size < w2.heap.size := Z2.out.1.lt
  have bw2 : b < w2.heap.size := Nat.lt_of_lt_of_le hblt B2.out.size
  clear hb2 Z1 HR
  obtain ⟨g0, g1, g2, g3, g4⟩ := (HCL.out 0 hpos).below B2.out hblt
  simp only [Nat.zero_mul, Nat.add_zero] at g0 g1 g2 g3 g4
  go_wp2
  have B3 := Hid.mk' (B2.out.alloc B2.out.size (.cells #[.int .i64 (f 0).c, .int .i64 (f 0).m.x, .int .i64 (f 0).m.y, .int .i64 (f 0).m.d, .int .i64 (f 0).m.e] 33))
  have Z3 := Hid.mk' (Z2.out.below (bel_one w2 (.cells #[.int .i64 (f 0).c, .int .i64 (f 0).m.x, .int .i64 (f 0).m.y, .int .i64 (f 0).m.d, .int .i64 (f 0).m.e] 33)))
  have L3 := Hid.mk' (Own5.box w2 33 (f 0))
  clear g0 g1 g2 g3 g4 Z2
  go_loopw [35] (fun ii wr => ∃ i j : Nat, i ≤ n - 1 ∧ j < n ∧ ii = .int .i64 i ∧ Below w.heap.size w wr ∧ Own5 wr w.heap.size zeroT ∧ Own5 wr w2.heap.size (f j) ∧ Hid (leadFrom 1 f (n - 1 - i) (i + 1) j = leadAt 1 f n)) (fun ii _ => n - (intOf ii).toNat)
  case atStart => exact ⟨0, 0, Nat.zero_le _, hpos, rfl, B3.out, Z3.out, L3.out, rfl⟩
  case round =>
    obtain ⟨i, j, hi, hj, rfl, hB, hZ, hL, HL⟩ := hrel
    have HZ := Hid.mk' hZ
    have HLE := Hid.mk' hL
    have zwr : w2.heap.size < wr.heap.size := hL.1.lt
    clear hZ hL
    by_cases hlt : i < n - 1
    · have hi1 : i + 1 < n := by omega
      have hin : (i : Int) < ((n - 1 : Nat) : Int) := by omega
      obtain ⟨g0, g1, g2, g3, g4⟩ := (HCL.out (i + 1) hi1).below hB hblt
      rw [show off + (i + 1) * 5 = off + 5 + i * 5 by omega] at g0 g1 g2 g3 g4
      have HOI := Hid.mk' (HM.out (i + 1) hi1)
      have HOJ := Hid.mk' (HM.out j hj)
      have BQ := Hid.mk' (hB.alloc hB.size (.cells #[.int .i64 (f (i + 1)).c, .int .i64 (f (i + 1)).m.x, .int .i64 (f (i + 1)).m.y, .int .i64 (f (i + 1)).m.d, .int .i64 (f (i + 1)).m.e] 33))
      have ZQ := Hid.mk' (HZ.out.below (bel_one wr (.cells #[.int .i64 (f (i + 1)).c, .int .i64 (f (i + 1)).m.x, .int .i64 (f (i + 1)).m.y, .int .i64 (f (i + 1)).m.d, .int .i64 (f (i + 1)).m.e] 33)))
      have LQ := Hid.mk' (HLE.out.below (bel_one wr (.cells #[.int .i64 (f (i + 1)).c, .int .i64 (f (i + 1)).m.x, .int .i64 (f (i + 1)).m.y, .int .i64 (f (i + 1)).m.d, .int .i64 (f (i + 1)).m.e] 33)))
      have TQ := Hid.mk' (C5.box wr 33 (f (i + 1)))
      go_wp2_with fail
      generalize (wr.alloc (.cells #[.int .i64 (f (i + 1)).c, .int .i64 (f (i + 1)).m.x, .int .i64 (f (i + 1)).m.y, .int .i64 (f (i + 1)).m.d, .int .i64 (f (i + 1)).m.e] 33)) = wq at BQ ZQ LQ TQ ⊢
      clear g0 g1 g2 g3 g4 HZ HLE
      have ne := Ext.there wq
      have s1 : ∀ u : Ext wq, u.1.cell? ⟨wr.heap.size, 1, none⟩ = some (.int .i64 (f (i + 1)).m.x) := fun u => (u.cell TQ.out.lt).trans TQ.out.2.1
      have s2 : ∀ u : Ext wq, u.1.cell? ⟨wr.heap.size, 2, none⟩ = some (.int .i64 (f (i + 1)).m.y) := fun u => (u.cell TQ.out.lt).trans TQ.out.2.2.1
      have s3 : ∀ u : Ext wq, u.1.cell? ⟨wr.heap.size, 3, none⟩ = some (.int .i64 (f (i + 1)).m.d) := fun u => (u.cell TQ.out.lt).trans TQ.out.2.2.2.1
      have s4 : ∀ u : Ext wq, u.1.cell? ⟨wr.heap.size, 4, none⟩ = some (.int .i64 (f (i + 1)).m.e) := fun u => (u.cell TQ.out.lt).trans TQ.out.2.2.2.2
      have t1 : ∀ u : Ext wq, u.1.cell? ⟨w2.heap.size, 1, none⟩ = some (.int .i64 (f j).m.x) := fun u => (u.cell LQ.out.1.lt).trans LQ.out.1.2.1
      have t2 : ∀ u : Ext wq, u.1.cell? ⟨w2.heap.size, 2, none⟩ = some (.int .i64 (f j).m.y) := fun u => (u.cell LQ.out.1.lt).trans LQ.out.1.2.2.1
      have t3 : ∀ u : Ext wq, u.1.cell? ⟨w2.heap.size, 3, none⟩ = some (.int .i64 (f j).m.d) := fun u => (u.cell LQ.out.1.lt).trans LQ.out.1.2.2.2.1
      have t4 : ∀ u : Ext wq, u.1.cell? ⟨w2.heap.size, 4, none⟩ = some (.int .i64 (f j).m.e) := fun u => (u.cell LQ.out.1.lt).trans LQ.out.1.2.2.2.2
      by_cases hq : rkD (f j).m < rkD (f (i + 1)).m
      · have dq : decide (rkD ⟨(f j).m.x, (f j).m.y, (f j).m.d, (f j).m.e⟩ < rkD ⟨(f (i + 1)).m.x, (f (i + 1)).m.y, (f (i + 1)).m.d, (f (i + 1)).m.e⟩) = true := decide_eq_true hq
        have hord : 0 < M.ord 1 (f (i + 1)).m (f j).m := by rw [← rk_deg HOI.out HOJ.out]; exact c3_pos.2 hq
        have HN : Hid (leadFrom 1 f (n - 1 - (i + 1)) (i + 1 + 1) (i + 1) = leadAt 1 f n) := by
          show _ = _
          rw [← HL.out, show n - 1 - i = (n - 1 - (i + 1)) + 1 by omega, leadFrom, if_pos hord]
        clear hq HL hord
        refine wp_region_ext (by kernel_rfl) (by kernel_rfl) ?_
        repeat (go_big_quiet_step (first | (go_at_call 88; exact ext_grows (rankDegI _ _ _ _ _ HOI.out)) | (go_at_call 88; exact ext_grows (rankDegI _ _ _ _ _ HOJ.out))))
        refine wpQuiet_nil ?_
        rintro _ ⟨v, rfl⟩
        have BV := Hid.mk' (BQ.out.trans (v.2.mono BQ.out.size))
        have ZV := Hid.mk' (ZQ.out.below v.2)
        have LV := Hid.mk' (LQ.out.below v.2)
        have TV := Hid.mk' (TQ.out.below v.2)
        obtain ⟨u, hu⟩ : ∃ u, v.1 = u := ⟨_, rfl⟩
        rw [hu] at BV ZV LV TV ⊢
        clear hu s1 s2 s3 s4 t1 t2 t3 t4 ne v
        obtain ⟨q0, q1, q2, q3, q4⟩ := TV.out
        obtain ⟨⟨l0, l1, l2, l3, l4⟩, lz⟩ := LV.out
        go_wp2
        go_roundw
        case rel =>
          refine ⟨i + 1, i + 1, by omega, hi1, by go_num, bel_s5 BV.out (by omega) _ _ _ _ _, ZV.out.far (by omega), ⟨⟨by go_simp, by go_simp, by go_simp, by go_simp, by go_simp⟩, fun j => by go_simp⟩, HN⟩
        case measure => simp [intOf]; omega
      · have dq : decide (rkD ⟨(f j).m.x, (f j).m.y, (f j).m.d, (f j).m.e⟩ < rkD ⟨(f (i + 1)).m.x, (f (i + 1)).m.y, (f (i + 1)).m.d, (f (i + 1)).m.e⟩) = false := decide_eq_false hq
        have hord : ¬ 0 < M.ord 1 (f (i + 1)).m (f j).m := by rw [← rk_deg HOI.out HOJ.out]; exact fun h => hq (c3_pos.1 h)
        have HN : Hid (leadFrom 1 f (n - 1 - (i + 1)) (i + 1 + 1) j = leadAt 1 f n) := by
          show _ = _
          rw [← HL.out, show n - 1 - i = (n - 1 - (i + 1)) + 1 by omega, leadFrom, if_neg hord]
        clear hq HL hord
        refine wp_region_ext (by kernel_rfl) (by kernel_rfl) ?_
        repeat (go_big_quiet_step (first | (go_at_call 88; exact ext_grows (rankDegI _ _ _ _ _ HOI.out)) | (go_at_call 88; exact ext_grows (rankDegI _ _ _ _ _ HOJ.out))))
        refine wpQuiet_nil ?_
        rintro _ ⟨v, rfl⟩
        have BV := Hid.mk' (BQ.out.trans (v.2.mono BQ.out.size))
        have ZV := Hid.mk' (ZQ.out.below v.2)
        have LV := Hid.mk' (LQ.out.below v.2)
        obtain ⟨u, hu⟩ : ∃ u, v.1 = u := ⟨_, rfl⟩
        rw [hu] at BV ZV LV ⊢
        clear hu s1 s2 s3 s4 t1 t2 t3 t4 ne v
        go_wp2
        go_roundw
        case rel => exact ⟨i + 1, j, by omega, hj, by go_num, BV.out, ZV.out, LV.out, HN⟩
        case measure => simp [intOf]; omega
    · have hjl : Hid (f j = t) := by
        show _ = _
        rw [HT.out, ← HL.out, show n - 1 - i = 0 by omega]; rfl
      have hin : ¬ (i : Int) < ((n - 1 : Nat) : Int) := by omega
      obtain ⟨⟨z0, z1, z2, z3, z4⟩, fz⟩ := HZ.out
      obtain ⟨⟨l0, l1, l2, l3, l4⟩, _⟩ := HLE.out
      simp only [zeroT] at z0 z1 z2 z3 z4
      rw [hjl.out] at l0 l1 l2 l3 l4
      clear HL HZ HLE
      go_wp2
      refine bodyPost_ret (v := .tuple #[.agg #[.int .i64 t.c, .int .i64 t.m.x, .int .i64 t.m.y, .int .i64 t.m.d, .int .i64 t.m.e], .bool true]) (by simp [results, Tryz.results12, go_sem, *]) rfl ⟨rfl, ?_⟩
      exact bel_s5 hB (Nat.le_refl _) _ _ _ _ _

set_option maxRecDepth 100000 in
set_option maxHeartbeats 8000000 in
theorem polLeadI2 (w : World) (a : Option Addr) (n cap : Nat) (f : Nat → T) (h : Rd w a n cap f) (hp : polOk n f = true) (hpos : 0 < n) :
    Calls Tryz.prog 12 #[.int .i64 2, .slice a n cap] w fun r w' => r = .returned (.tuple #[.agg #[.int .i64 (leadT 2 n f).c, .int .i64 (leadT 2 n f).m.x, .int .i64 (leadT 2 n f).m.y, .int .i64 (leadT 2 n f).m.d, .int .i64 (leadT 2 n f).m.e], .bool (leadOk 2 n f)]) ∧ Below w.heap.size w w' := by
  have HR := Hid.mk' h
  obtain ⟨h1, h2, h3⟩ := h
  have hn : (n : Int) ≤ 140737488351232 := by omega
  have e1 : leadOk 2 n f = true := by simp [leadOk, hp, hpos]
  rw [leadT_yes e1, e1]
  clear e1
  have hne : ((n : Int) == 0) = false := by simp; omega
  have HM := Hid.mk' (polOk_m hp)
  obtain ⟨t, ht⟩ : ∃ t, t = f (leadAt 2 f n) := ⟨_, rfl⟩
  rw [← ht]
  have HT := Hid.mk' ht
  obtain ⟨b, off, rfl, hblt, hcl⟩ := h3.resolve_left (by omega)
  have HCL := Hid.mk' hcl
  clear ht h3 hcl
  have hn1 : (0 : Int) < (n : Int) := by omega
  have hn2 : (1 : Int) ≤ (n : Int) := by omega
  have hn3 : (1 : Int) ≤ (cap : Int) := by omega
  have hn4 : (n : Int) ≤ (cap : Int) := by omega
  have hn5 : 1 ≤ n := by omega
  have hn6 : 1 ≤ cap := by omega
  by_cases hc1 : cap = 1
  · obtain rfl : n = 1 := by omega
    subst hc1
    have ht0 : t = f 0 := HT.out
    subst ht0
    go_enter Tryz.func12, Tryz.ntmps12
    go_wp2_with fail
    refine (ordRankI2 _).mono ?_
    rintro r w1 ⟨rfl, hb1⟩
    have B1 := Hid.mk' (bel_next (bel_one w _) hb1)
    have Z1 := Hid.mk' ((Own5.box w 33 zeroT).below hb1)
    clear hb1
    go_wp2_with fail
    refine (polOkI _ _ _ _ f (HR.out.below B1.out)).mono ?_
    rw [hp]
    rintro r w2 ⟨rfl, hb2⟩
    have B2 := Hid.mk' (bel_next B1.out hb2)
    have Z2 := Hid.mk' (Z1.out.below hb2)
    have zw2 : w.heap.size < w2.heap.size := Z2.out.1.lt
    clear hb2 Z1 HR
    obtain ⟨g0, g1, g2, g3, g4⟩ := (HCL.out 0 hpos).below B2.out hblt
    simp only [Nat.zero_mul, Nat.add_zero] at g0 g1 g2 g3 g4
    go_wp2
    have B3 := Hid.mk' (B2.out.alloc B2.out.size (.cells #[.int .i64 (f 0).c, .int .i64 (f 0).m.x, .int .i64 (f 0).m.y, .int .i64 (f 0).m.d, .int .i64 (f 0).m.e] 33))
    have Z3 := Hid.mk' (Z2.out.below (bel_one w2 (.cells #[.int .i64 (f 0).c, .int .i64 (f 0).m.x, .int .i64 (f 0).m.y, .int .i64 (f 0).m.d, .int .i64 (f 0).m.e] 33)))
    have L3 := Hid.mk' (Own5.box w2 33 (f 0))
    clear g0 g1 g2 g3 g4 Z2
    go_loopw [35] (fun ii wr => ii = .int .i64 0 ∧ Below w.heap.size w wr ∧ Own5 wr w.heap.size zeroT ∧ Own5 wr w2.heap.size (f 0)) (fun _ _ => 0)
    case atStart => exact ⟨rfl, B3.out, Z3.out, L3.out⟩
    case round =>
      obtain ⟨rfl, hB, hZ, hL⟩ := hrel
      obtain ⟨⟨z0, z1, z2, z3, z4⟩, fz⟩ := hZ
      obtain ⟨⟨l0, l1, l2, l3, l4⟩, _⟩ := hL
      simp only [zeroT] at z0 z1 z2 z3 z4
      go_wp2
      refine bodyPost_ret (v := .tuple #[.agg #[.int .i64 (f 0).c, .int .i64 (f 0).m.x, .int .i64 (f 0).m.y, .int .i64 (f 0).m.d, .int .i64 (f 0).m.e], .bool true]) (by simp [results, Tryz.results12, go_sem, *]) rfl ⟨rfl, ?_⟩
      exact bel_s5 hB (Nat.le_refl _) _ _ _ _ _
  go_enter Tryz.func12, Tryz.ntmps12
  go_wp2_with fail
  refine (ordRankI2 _).mono ?_
  rintro r w1 ⟨rfl, hb1⟩
  have B1 := Hid.mk' (bel_next (bel_one w _) hb1)
  have Z1 := Hid.mk' ((Own5.box w 33 zeroT).below hb1)
  clear hb1
  go_wp2_with fail
  refine (polOkI _ _ _ _ f (HR.out.below B1.out)).mono ?_
  rw [hp]
  rintro r w2 ⟨rfl, hb2⟩
  have B2 := Hid.mk' (bel_next B1.out hb2)
  have Z2 := Hid.mk' (Z1.out.below hb2)
  have zw2 : w.heap.size < w2.heap.size := Z2.out.1.lt
  have bw2 : b < w2.heap.size := Nat.lt_of_lt_of_le hblt B2.out.size
  clear hb2 Z1 HR
  obtain ⟨g0, g1, g2, g3, g4⟩ := (HCL.out 0 hpos).below B2.out hblt
  simp only [Nat.zero_mul, Nat.add_zero] at g0 g1 g2 g3 g4
  go_wp2
  have B3 := Hid.mk' (B2.out.alloc B2.out.size (.cells #[.int .i64 (f 0).c, .int .i64 (f 0).m.x, .int .i64 (f 0).m.y, .int .i64 (f 0).m.d, .int .i64 (f 0).m.e] 33))
  have Z3 := Hid.mk' (Z2.out.below (bel_one w2 (.cells #[.int .i64 (f 0).c, .int .i64 (f 0).m.x, .int .i64 (f 0).m.y, .int .i64 (f 0).m.d, .int .i64 (f 0).m.e] 33)))
  have L3 := Hid.mk' (Own5.box w2 33 (f 0))
  clear g0 g1 g2 g3 g4 Z2
  go_loopw [35] (fun ii wr => ∃ i j : Nat, i ≤ n - 1 ∧ j < n ∧ ii = .int .i64 i ∧ Below w.heap.size w wr ∧ Own5 wr w.heap.size zeroT ∧ Own5 wr w2.heap.size (f j) ∧ Hid (leadFrom 2 f (n - 1 - i) (i + 1) j = leadAt 2 f n)) (fun ii _ => n - (intOf ii).toNat)
  case atStart => exact ⟨0, 0, Nat.zero_le _, hpos, rfl, B3.out, Z3.out, L3.out, rfl⟩
  case round =>
    obtain ⟨i, j, hi, hj, rfl, hB, hZ, hL, HL⟩ := hrel
    have HZ := Hid.mk' hZ
    have HLE := Hid.mk' hL
    have zwr : w2.heap.size < wr.heap.size := hL.1.lt
    clear hZ hL
    by_cases hlt : i < n - 1
    · have hi1 : i + 1 < n := by omega
      have hin : (i : Int) < ((n - 1 : Nat) : Int) := by omega
      obtain ⟨g0, g1, g2, g3, g4⟩ := (HCL.out (i + 1) hi1).below hB hblt
      rw [show off + (i + 1) * 5 = off + 5 + i * 5 by omega] at g0 g1 g2 g3 g4
      have HOI := Hid.mk' (HM.out (i + 1) hi1)
      have HOJ := Hid.mk' (HM.out j hj)
      have BQ := Hid.mk' (hB.alloc hB.size (.cells #[.int .i64 (f (i + 1)).c, .int .i64 (f (i + 1)).m.x, .int .i64 (f (i + 1)).m.y, .int .i64 (f (i + 1)).m.d, .int .i64 (f (i + 1)).m.e] 33))
      have ZQ := Hid.mk' (HZ.out.below (bel_one wr (.cells #[.int .i64 (f (i + 1)).c, .int .i64 (f (i + 1)).m.x, .int .i64 (f (i + 1)).m.y, .int .i64 (f (i + 1)).m.d, .int .i64 (f (i + 1)).m.e] 33)))
      have LQ := Hid.mk' (HLE.out.below (bel_one wr (.cells #[.int .i64 (f (i + 1)).c, .int .i64 (f (i + 1)).m.x, .int .i64 (f (i + 1)).m.y, .int .i64 (f (i + 1)).m.d, .int .i64 (f (i + 1)).m.e] 33)))
      have TQ := Hid.mk' (C5.box wr 33 (f (i + 1)))
      go_wp2_with fail
      generalize (wr.alloc (.cells #[.int .i64 (f (i + 1)).c, .int .i64 (f (i + 1)).m.x, .int .i64 (f (i + 1)).m.y, .int .i64 (f (i + 1)).m.d, .int .i64 (f (i + 1)).m.e] 33)) = wq at BQ ZQ LQ TQ ⊢
      clear g0 g1 g2 g3 g4 HZ HLE
      have ne := Ext.there wq
      have s1 : ∀ u : Ext wq, u.1.cell? ⟨wr.heap.size, 1, none⟩ = some (.int .i64 (f (i + 1)).m.x) := fun u => (u.cell TQ.out.lt).trans TQ.out.2.1
      have s2 : ∀ u : Ext wq, u.1.cell? ⟨wr.heap.size, 2, none⟩ = some (.int .i64 (f (i + 1)).m.y) := fun u => (u.cell TQ.out.lt).trans TQ.out.2.2.1
      have s3 : ∀ u : Ext wq, u.1.cell? ⟨wr.heap.size, 3, none⟩ = some (.int .i64 (f (i + 1)).m.d) := fun u => (u.cell TQ.out.lt).trans TQ.out.2.2.2.1
      have s4 : ∀ u : Ext wq, u.1.cell? ⟨wr.heap.size, 4, none⟩ = some (.int .i64 (f (i + 1)).m.e) := fun u => (u.cell TQ.out.lt).trans TQ.out.2.2.2.2
      have t1 : ∀ u : Ext wq, u.1.cell? ⟨w2.heap.size, 1, none⟩ = some (.int .i64 (f j).m.x) := fun u => (u.cell LQ.out.1.lt).trans LQ.out.1.2.1
      have t2 : ∀ u : Ext wq, u.1.cell? ⟨w2.heap.size, 2, none⟩ = some (.int .i64 (f j).m.y) := fun u => (u.cell LQ.out.1.lt).trans LQ.out.1.2.2.1
      have t3 : ∀ u : Ext wq, u.1.cell? ⟨w2.heap.size, 3, none⟩ = some (.int .i64 (f j).m.d) := fun u => (u.cell LQ.out.1.lt).trans LQ.out.1.2.2.2.1
      have t4 : ∀ u : Ext wq, u.1.cell? ⟨w2.heap.size, 4, none⟩ = some (.int .i64 (f j).m.e) := fun u => (u.cell LQ.out.1.lt).trans LQ.out.1.2.2.2.2
      by_cases hq : rkL (f j).m < rkL (f (i + 1)).m
      · have dq : decide (rkL ⟨(f j).m.x, (f j).m.y, (f j).m.d, (f j).m.e⟩ < rkL ⟨(f (i + 1)).m.x, (f (i + 1)).m.y, (f (i + 1)).m.d, (f (i + 1)).m.e⟩) = true := decide_eq_true hq
        have hord : 0 < M.ord 2 (f (i + 1)).m (f j).m := by rw [← rk_two HOI.out HOJ.out]; exact c3_pos.2 hq
        have HN : Hid (leadFrom 2 f (n - 1 - (i + 1)) (i + 1 + 1) (i + 1) = leadAt 2 f n) := by
          show _ = _
          rw [← HL.out, show n - 1 - i = (n - 1 - (i + 1)) + 1 by omega, leadFrom, if_pos hord]
        clear hq HL hord
        refine wp_region_ext (by kernel_rfl) (by kernel_rfl) ?_
        repeat (go_big_quiet_step (first | (go_at_call 89; exact ext_grows (rankLexI _ _ _ _ _ HOI.out)) | (go_at_call 89; exact ext_grows (rankLexI _ _ _ _ _ HOJ.out))))
        refine wpQuiet_nil ?_
        rintro _ ⟨v, rfl⟩
        have BV := Hid.mk' (BQ.out.trans (v.2.mono BQ.out.size))
        have ZV := Hid.mk' (ZQ.out.below v.2)
        have LV := Hid.mk' (LQ.out.below v.2)
        have TV := Hid.mk' (TQ.out.below v.2)
        obtain ⟨u, hu⟩ : ∃ u, v.1 = u := ⟨_, rfl⟩
        rw [hu] at BV ZV LV TV ⊢
        clear hu s1 s2 s3 s4 t1 t2 t3 t4 ne v
        obtain ⟨q0, q1, q2, q3, q4⟩ := TV.out
        obtain ⟨⟨l0, l1, l2, l3, l4⟩, lz⟩ := LV.out
        go_wp2
        go_roundw
        case rel =>
          refine ⟨i + 1, i + 1, by omega, hi1, by go_num, bel_s5 BV.out (by omega) _ _ _ _ _, ZV.out.far (by omega), ⟨⟨by go_simp, by go_simp, by go_simp, by go_simp, by go_simp⟩, fun j => by go_simp⟩, HN⟩
        case measure => simp [intOf]; omega
      · have dq : decide (rkL ⟨(f j).m.x, (f j).m.y, (f j).m.d, (f j).m.e⟩ < rkL ⟨(f (i + 1)).m.x, (f (i + 1)).m.y, (f (i + 1)).m.d, (f (i + 1)).m.e⟩) = false := decide_eq_false hq
        have hord : ¬ 0 < M.ord 2 (f (i + 1)).m (f j).m := by rw [← rk_two HOI.out HOJ.out]; exact fun h => hq (c3_pos.1 h)
        have HN : Hid (leadFrom 2 f (n - 1 - (i + 1)) (i + 1 + 1) j = leadAt 2 f n) := by
          show _ = _
          rw [← HL.out, show n - 1 - i = (n - 1 - (i + 1)) + 1 by omega, leadFrom, if_neg hord]
        clear hq HL hord
        refine wp_region_ext (by kernel_rfl) (by kernel_rfl) ?_
        repeat (go_big_quiet_step (first | (go_at_call 89; exact ext_grows (rankLexI _ _ _ _ _ HOI.out)) | (go_at_call 89; exact ext_grows (rankLexI _ _ _ _ _ HOJ.out))))
        refine wpQuiet_nil ?_
        rintro _ ⟨v, rfl⟩
        have BV := Hid.mk' (BQ.out.trans (v.2.mono BQ.out.size))
        have ZV := Hid.mk' (ZQ.out.below v.2)
        have LV := Hid.mk' (LQ.out.below v.2)
        obtain ⟨u, hu⟩ : ∃ u, v.1 = u := ⟨_, rfl⟩
        rw [hu] at BV ZV LV ⊢
        clear hu s1 s2 s3 s4 t1 t2 t3 t4 ne v
        go_wp2
        go_roundw
        case rel => exact ⟨i + 1, j, by omega, hj, by go_num, BV.out, ZV.out, LV.out, HN⟩
        case measure => simp [intOf]; omega
    · have hjl : Hid (f j = t) := by
        show _ = _
        rw [HT.out, ← HL.out, show n - 1 - i = 0 by omega]; rfl
      have hin : ¬ (i : Int) < ((n - 1 : Nat) : Int) := by omega
      obtain ⟨⟨z0, z1, z2, z3, z4⟩, fz⟩ := HZ.out
      obtain ⟨⟨l0, l1, l2, l3, l4⟩, _⟩ := HLE.out
      simp only [zeroT] at z0 z1 z2 z3 z4
      rw [hjl.out] at l0 l1 l2 l3 l4
      clear HL HZ HLE
      go_wp2
      refine bodyPost_ret (v := .tuple #[.agg #[.int .i64 t.c, .int .i64 t.m.x, .int .i64 t.m.y, .int .i64 t.m.d, .int .i64 t.m.e], .bool true]) (by simp [results, Tryz.results12, go_sem, *]) rfl ⟨rfl, ?_⟩
      exact bel_s5 hB (Nat.le_refl _) _ _ _ _ _

set_option maxRecDepth 100000 in
set_option maxHeartbeats 8000000 in
theorem polLeadI3 (w : World) (a : Option Addr) (n cap : Nat) (f : Nat → T) (h : Rd w a n cap f) (hp : polOk n f = true) (hpos : 0 < n) :
    Calls Tryz.prog 12 #[.int .i64 3, .slice a n cap] w fun r w' => r = .returned (.tuple #[.agg #[.int .i64 (leadT 3 n f).c, .int .i64 (leadT 3 n f).m.x, .int .i64 (leadT 3 n f).m.y, .int .i64 (leadT 3 n f).m.d, .int .i64 (leadT 3 n f).m.e], .bool (leadOk 3 n f)]) ∧ Below w.heap.size w w' := by
  have HR := Hid.mk' h
  obtain ⟨h1, h2, h3⟩ := h
  have hn : (n : Int) ≤ 140737488351232 := by omega
  have e1 : leadOk 3 n f = true := by simp [leadOk, hp, hpos]
  rw [leadT_yes e1, e1]
  clear e1
  have hne : ((n : Int) == 0) = false := by simp; omega
  have HM := Hid.mk' (polOk_m hp)
  obtain ⟨t, ht⟩ : ∃ t, t = f (leadAt 3 f n) := ⟨_, rfl⟩
  rw [← ht]
  have HT := Hid.mk' ht
  obtain ⟨b, off, rfl, hblt, hcl⟩ := h3.resolve_left (by omega)
  have HCL := Hid.mk' hcl
  clear ht h3 hcl
  have hn1 : (0 : Int) < (n : Int) := by omega
  have hn2 : (1 : Int) ≤ (n : Int) := by omega
  have hn3 : (1 : Int) ≤ (cap : Int) := by omega
  have hn4 : (n : Int) ≤ (cap : Int) := by omega
  have hn5 : 1 ≤ n := by omega
  have hn6 : 1 ≤ cap := by omega
  by_cases hc1 : cap = 1
  · obtain rfl : n = 1 := by omega
    subst hc1
    have ht0 : t = f 0 := HT.out
    subst ht0
    go_enter Tryz.func12, Tryz.ntmps12
    go_wp2_with fail
    refine (ordRankI3 _).mono ?_
    rintro r w1 ⟨rfl, hb1⟩
    have B1 := Hid.mk' (bel_next (bel_one w _) hb1)
    have Z1 := Hid.mk' ((Own5.box w 33 zeroT).below hb1)
    clear hb1
    go_wp2_with fail
    refine (polOkI _ _ _ _ f (HR.out.below B1.out)).mono ?_
    rw [hp]
    rintro r w2 ⟨rfl, hb2⟩
    have B2 := Hid.mk' (bel_next B1.out hb2)
    have Z2 := Hid.mk' (Z1.out.below hb2)
    have zw2 : w.heap.size < w2.heap.size := Z2.out.1.lt
    clear hb2 Z1 HR
    obtain ⟨g0, g1, g2, g3, g4⟩ := (HCL.out 0 hpos).below B2.out hblt
    simp only [Nat.zero_mul, Nat.add_zero] at g0 g1 g2 g3 g4
    go_wp2
    have B3 := Hid.mk' (B2.out.alloc B2.out.size (.cells #[.int .i64 (f 0).c, .int .i64 (f 0).m.x, .int .i64 (f 0).m.y, .int .i64 (f 0).m.d, .int .i64 (f 0).m.e] 33))
    have Z3 := Hid.mk' (Z2.out.below (bel_one w2 (.cells #[.int .i64 (f 0).c, .int .i64 (f 0).m.x, .int .i64 (f 0).m.y, .int .i64 (f 0).m.d, .int .i64 (f 0).m.e] 33)))
    have L3 := Hid.mk' (Own5.box w2 33 (f 0))
    clear g0 g1 g2 g3 g4 Z2
    go_loopw [35] (fun ii wr => ii = .int .i64 0 ∧ Below w.heap.size w wr ∧ Own5 wr w.heap.size zeroT ∧ Own5 wr w2.heap.size (f 0)) (fun _ _ => 0)
    case atStart => exact ⟨rfl, B3.out, Z3.out, L3.out⟩
    case round =>
      obtain ⟨rfl, hB, hZ, hL⟩ := hrel
      obtain ⟨⟨z0, z1, z2, z3, z4⟩, fz⟩ := hZ
      obtain ⟨⟨l0, l1, l2, l3, l4⟩, _⟩ := hL
      simp only [zeroT] at z0 z1 z2 z3 z4
      go_wp2
      refine bodyPost_ret (v := .tuple #[.agg #[.int .i64 (f 0).c, .int .i64 (f 0).m.x, .int .i64 (f 0).m.y, .int .i64 (f 0).m.d, .int .i64 (f 0).m.e], .bool true]) (by simp [results, Tryz.results12, go_sem, *]) rfl ⟨rfl, ?_⟩
      exact bel_s5 hB (Nat.le_refl _) _ _ _ _ _
  go_enter Tryz.func12, Tryz.ntmps12
  go_wp2_with fail
  refine (ordRankI3 _).mono ?_
  rintro r w1 ⟨rfl, hb1⟩
  have B1 := Hid.mk' (bel_next (bel_one w _) hb1)
  have Z1 := Hid.mk' ((Own5.box w 33 zeroT).below hb1)
  clear hb1
  go_wp2_with fail
  refine (polOkI _ _ _ _ f (HR.out.below B1.out)).mono ?_
  rw [hp]
  rintro r w2 ⟨rfl, hb2⟩
  have B2 := Hid.mk' (bel_next B1.out hb2)
  have Z2 := Hid.mk' (Z1.out.below hb2)
  have zw2 : w.heap.size < w2.heap.size := Z2.out.1.lt
  have bw2 : b < w2.heap.size := Nat.lt_of_lt_of_le hblt B2.out.size
  clear hb2 Z1 HR
  obtain ⟨g0, g1, g2, g3, g4⟩ := (HCL.out 0 hpos).below B2.out hblt
  simp only [Nat.zero_mul, Nat.add_zero] at g0 g1 g2 g3 g4
  go_wp2
  have B3 := Hid.mk' (B2.out.alloc B2.out.size (.cells #[.int .i64 (f 0).c, .int .i64 (f 0).m.x, .int .i64 (f 0).m.y, .int .i64 (f 0).m.d, .int .i64 (f 0).m.e] 33))
  have Z3 := Hid.mk' (Z2.out.below (bel_one w2 (.cells #[.int .i64 (f 0).c, .int .i64 (f 0).m.x, .int .i64 (f 0).m.y, .int .i64 (f 0).m.d, .int .i64 (f 0).m.e] 33)))
  have L3 := Hid.mk' (Own5.box w2 33 (f 0))
  clear g0 g1 g2 g3 g4 Z2
  go_loopw [35] (fun ii wr => ∃ i j : Nat, i ≤ n - 1 ∧ j < n ∧ ii = .int .i64 i ∧ Below w.heap.size w wr ∧ Own5 wr w.heap.size zeroT ∧ Own5 wr w2.heap.size (f j) ∧ Hid (leadFrom 3 f (n - 1 - i) (i + 1) j = leadAt 3 f n)) (fun ii _ => n - (intOf ii).toNat)
  case atStart => exact ⟨0, 0, Nat.zero_le _, hpos, rfl, B3.out, Z3.out, L3.out, rfl⟩
  case round =>
    obtain ⟨i, j, hi, hj, rfl, hB, hZ, hL, HL⟩ := hrel
    have HZ := Hid.mk' hZ
    have HLE := Hid.mk' hL
    have zwr : w2.heap.size < wr.heap.size := hL.1.lt
    clear hZ hL
    by_cases hlt : i < n - 1
    · have hi1 : i + 1 < n := by omega
      have hin : (i : Int) < ((n - 1 : Nat) : Int) := by omega
      obtain ⟨g0, g1, g2, g3, g4⟩ := (HCL.out (i + 1) hi1).below hB hblt
      rw [show off + (i + 1) * 5 = off + 5 + i * 5 by omega] at g0 g1 g2 g3 g4
      have HOI := Hid.mk' (HM.out (i + 1) hi1)
      have HOJ := Hid.mk' (HM.out j hj)
      have BQ := Hid.mk' (hB.alloc hB.size (.cells #[.int .i64 (f (i + 1)).c, .int .i64 (f (i + 1)).m.x, .int .i64 (f (i + 1)).m.y, .int .i64 (f (i + 1)).m.d, .int .i64 (f (i + 1)).m.e] 33))
      have ZQ := Hid.mk' (HZ.out.below (bel_one wr (.cells #[.int .i64 (f (i + 1)).c, .int .i64 (f (i + 1)).m.x, .int .i64 (f (i + 1)).m.y, .int .i64 (f (i + 1)).m.d, .int .i64 (f (i + 1)).m.e] 33)))
      have LQ := Hid.mk' (HLE.out.below (bel_one wr (.cells #[.int .i64 (f (i + 1)).c, .int .i64 (f (i + 1)).m.x, .int .i64 (f (i + 1)).m.y, .int .i64 (f (i + 1)).m.d, .int .i64 (f (i + 1)).m.e] 33)))
      have TQ := Hid.mk' (C5.box wr 33 (f (i + 1)))
      go_wp2_with fail
      generalize (wr.alloc (.cells #[.int .i64 (f (i + 1)).c, .int .i64 (f (i + 1)).m.x, .int .i64 (f (i + 1)).m.y, .int .i64 (f (i + 1)).m.d, .int .i64 (f (i + 1)).m.e] 33)) = wq at BQ ZQ LQ TQ ⊢
      clear g0 g1 g2 g3 g4 HZ HLE
      have ne := Ext.there wq
      have s1 : ∀ u : Ext wq, u.1.cell? ⟨wr.heap.size, 1, none⟩ = some (.int .i64 (f (i + 1)).m.x) := fun u => (u.cell TQ.out.lt).trans TQ.out.2.1
      have s2 : ∀ u : Ext wq, u.1.cell? ⟨wr.heap.size, 2, none⟩ = some (.int .i64 (f (i + 1)).m.y) := fun u => (u.cell TQ.out.lt).trans TQ.out.2.2.1
      have s3 : ∀ u : Ext wq, u.1.cell? ⟨wr.heap.size, 3, none⟩ = some (.int .i64 (f (i + 1)).m.d) := fun u => (u.cell TQ.out.lt).trans TQ.out.2.2.2.1
      have s4 : ∀ u : Ext wq, u.1.cell? ⟨wr.heap.size, 4, none⟩ = some (.int .i64 (f (i + 1)).m.e) := fun u => (u.cell TQ.out.lt).trans TQ.out.2.2.2.2
      have t1 : ∀ u : Ext wq, u.1.cell? ⟨w2.heap.size, 1, none⟩ = some (.int .i64 (f j).m.x) := fun u => (u.cell LQ.out.1.lt).trans LQ.out.1.2.1
      have t2 : ∀ u : Ext wq, u.1.cell? ⟨w2.heap.size, 2, none⟩ = some (.int .i64 (f j).m.y) := fun u => (u.cell LQ.out.1.lt).trans LQ.out.1.2.2.1
      have t3 : ∀ u : Ext wq, u.1.cell? ⟨w2.heap.size, 3, none⟩ = some (.int .i64 (f j).m.d) := fun u => (u.cell LQ.out.1.lt).trans LQ.out.1.2.2.2.1
      have t4 : ∀ u : Ext wq, u.1.cell? ⟨w2.heap.size, 4, none⟩ = some (.int .i64 (f j).m.e) := fun u => (u.cell LQ.out.1.lt).trans LQ.out.1.2.2.2.2
      by_cases hq : rkO (f j).m < rkO (f (i + 1)).m
      · have dq : decide (rkO ⟨(f j).m.x, (f j).m.y, (f j).m.d, (f j).m.e⟩ < rkO ⟨(f (i + 1)).m.x, (f (i + 1)).m.y, (f (i + 1)).m.d, (f (i + 1)).m.e⟩) = true := decide_eq_true hq
        have hord : 0 < M.ord 3 (f (i + 1)).m (f j).m := by rw [← rk_out HOI.out HOJ.out]; exact c3_pos.2 hq
        have HN : Hid (leadFrom 3 f (n - 1 - (i + 1)) (i + 1 + 1) (i + 1) = leadAt 3 f n) := by
          show _ = _
          rw [← HL.out, show n - 1 - i = (n - 1 - (i + 1)) + 1 by omega, leadFrom, if_pos hord]
        clear hq HL hord
        refine wp_region_ext (by kernel_rfl) (by kernel_rfl) ?_
        repeat (go_big_quiet_step (first | (go_at_call 90; exact ext_grows (rankOutI _ _ _ _ _ HOI.out)) | (go_at_call 90; exact ext_grows (rankOutI _ _ _ _ _ HOJ.out))))
        refine wpQuiet_nil ?_
        rintro _ ⟨v, rfl⟩
        have BV := Hid.mk' (BQ.out.trans (v.2.mono BQ.out.size))
        have ZV := Hid.mk' (ZQ.out.below v.2)
        have LV := Hid.mk' (LQ.out.below v.2)
        have TV := Hid.mk' (TQ.out.below v.2)
        obtain ⟨u, hu⟩ : ∃ u, v.1 = u := ⟨_, rfl⟩
        rw [hu] at BV ZV LV TV ⊢
        clear hu s1 s2 s3 s4 t1 t2 t3 t4 ne v
        obtain ⟨q0, q1, q2, q3, q4⟩ := TV.out
        obtain ⟨⟨l0, l1, l2, l3, l4⟩, lz⟩ := LV.out
        go_wp2
        go_roundw
        case rel =>
          refine ⟨i + 1, i + 1, by omega, hi1, by go_num, bel_s5 BV.out (by omega) _ _ _ _ _, ZV.out.far (by omega), ⟨⟨by go_simp, by go_simp, by go_simp, by go_simp, by go_simp⟩, fun j => by go_simp⟩, HN⟩
        case measure => simp [intOf]; omega
      · have dq : decide (rkO ⟨(f j).m.x, (f j).m.y, (f j).m.d, (f j).m.e⟩ < rkO ⟨(f (i + 1)).m.x, (f (i + 1)).m.y, (f (i + 1)).m.d, (f (i + 1)).m.e⟩) = false := decide_eq_false hq
        have hord : ¬ 0 < M.ord 3 (f (i + 1)).m (f j).m := by rw [← rk_out HOI.out HOJ.out]; exact fun h => hq (c3_pos.1 h)
        have HN : Hid (leadFrom 3 f (n - 1 - (i + 1)) (i + 1 + 1) j = leadAt 3 f n) := by
          show _ = _
          rw [← HL.out, show n - 1 - i = (n - 1 - (i + 1)) + 1 by omega, leadFrom, if_neg hord]
        clear hq HL hord
        refine wp_region_ext (by kernel_rfl) (by kernel_rfl) ?_
        repeat (go_big_quiet_step (first | (go_at_call 90; exact ext_grows (rankOutI _ _ _ _ _ HOI.out)) | (go_at_call 90; exact ext_grows (rankOutI _ _ _ _ _ HOJ.out))))
        refine wpQuiet_nil ?_
        rintro _ ⟨v, rfl⟩
        have BV := Hid.mk' (BQ.out.trans (v.2.mono BQ.out.size))
        have ZV := Hid.mk' (ZQ.out.below v.2)
        have LV := Hid.mk' (LQ.out.below v.2)
        obtain ⟨u, hu⟩ : ∃ u, v.1 = u := ⟨_, rfl⟩
        rw [hu] at BV ZV LV ⊢
        clear hu s1 s2 s3 s4 t1 t2 t3 t4 ne v
        go_wp2
        go_roundw
        case rel => exact ⟨i + 1, j, by omega, hj, by go_num, BV.out, ZV.out, LV.out, HN⟩
        case measure => simp [intOf]; omega
    · have hjl : Hid (f j = t) := by
        show _ = _
        rw [HT.out, ← HL.out, show n - 1 - i = 0 by omega]; rfl
      have hin : ¬ (i : Int) < ((n - 1 : Nat) : Int) := by omega
      obtain ⟨⟨z0, z1, z2, z3, z4⟩, fz⟩ := HZ.out
      obtain ⟨⟨l0, l1, l2, l3, l4⟩, _⟩ := HLE.out
      simp only [zeroT] at z0 z1 z2 z3 z4
      rw [hjl.out] at l0 l1 l2 l3 l4
      clear HL HZ HLE
      go_wp2
      refine bodyPost_ret (v := .tuple #[.agg #[.int .i64 t.c, .int .i64 t.m.x, .int .i64 t.m.y, .int .i64 t.m.d, .int .i64 t.m.e], .bool true]) (by simp [results, Tryz.results12, go_sem, *]) rfl ⟨rfl, ?_⟩
      exact bel_s5 hB (Nat.le_refl _) _ _ _ _ _

set_option maxRecDepth 100000 in
set_option maxHeartbeats 4000000 in
theorem polLeadI (w : World) (o : Int) (a : Option Addr) (n cap : Nat) (f : Nat → T) (h : Rd w a n cap f) :
    Calls Tryz.prog 12 #[.int .i64 o, .slice a n cap] w fun r w' => r = .returned (.tuple #[.agg #[.int .i64 (leadT o n f).c, .int .i64 (leadT o n f).m.x, .int .i64 (leadT o n f).m.y, .int .i64 (leadT o n f).m.d, .int .i64 (leadT o n f).m.e], .bool (leadOk o n f)]) ∧ Below w.heap.size w w' := by
  by_cases ho : 1 ≤ o ∧ o ≤ 3
  · obtain ⟨o1, o2⟩ := ho
    by_cases hn0 : n = 0
    · have e1 : leadOk o n f = false := by simp [leadOk, hn0]
      rw [leadT_no e1, e1]
      clear e1
      subst hn0
      clear h
      go_enter Tryz.func12, Tryz.ntmps12
      go_wp2_with fail
      refine (ordRankI_in _ _ o1 o2).mono ?_
      rintro r w1 ⟨fv, rfl, hb1⟩
      obtain ⟨hc1, hf1⟩ := bcell hb1
      have B1 := Hid.mk' (bel_next (bel_one w _) hb1)
      clear hb1
      go_wp2
      refine bodyPost_ret (v := .tuple #[.agg #[.int .i64 0, .int .i64 0, .int .i64 0, .int .i64 0, .int .i64 0], .bool false]) (by simp [results, Tryz.results12, go_sem, *]) rfl ⟨rfl, ?_⟩
      exact bel_s5 B1.out (by omega) _ _ _ _ _
    · cases hp : polOk n f
      · have e1 : leadOk o n f = false := by simp [leadOk, hp]
        rw [leadT_no e1, e1]
        clear e1
        have HR := Hid.mk' h
        have hn : (n : Int) ≤ 140737488351232 := by have := h.2.1; omega
        have hne : ((n : Int) == 0) = false := by simp; omega
        clear h hn0
        go_enter Tryz.func12, Tryz.ntmps12
        go_wp2_with fail
        refine (ordRankI_in _ _ o1 o2).mono ?_
        rintro r w1 ⟨fv, rfl, hb1⟩
        obtain ⟨hc1, hf1⟩ := bcell hb1
        have B1 := Hid.mk' (bel_next (bel_one w _) hb1)
        have hz1 : w.heap.size < w1.heap.size := by have := hb1.size; simp at this; omega
        clear hb1
        go_wp2_with fail
        refine (polOkI _ _ _ _ f (HR.out.below B1.out)).mono ?_
        rw [hp]
        rintro r w2 ⟨rfl, hb2⟩
        obtain ⟨hc2, hf2⟩ := bcell hb2
        have B2 := Hid.mk' (bel_next B1.out hb2)
        clear hb2
        go_wp2
        refine bodyPost_ret (v := .tuple #[.agg #[.int .i64 0, .int .i64 0, .int .i64 0, .int .i64 0, .int .i64 0], .bool false]) (by simp [results, Tryz.results12, go_sem, *]) rfl ⟨rfl, ?_⟩
        exact bel_s5 B2.out (by omega) _ _ _ _ _
      · have ho3 : o = 1 ∨ o = 2 ∨ o = 3 := by omega
        rcases ho3 with rfl | rfl | rfl
        · exact polLeadI1 w a n cap f h hp (by omega)
        · exact polLeadI2 w a n cap f h hp (by omega)
        · exact polLeadI3 w a n cap f h hp (by omega)
  · have e1 : leadOk o n f = false := by simp [leadOk, ho]
    rw [leadT_no e1, e1]
    have ho' : o < 1 ∨ 3 < o := by omega
    clear e1 ho h
    go_enter Tryz.func12, Tryz.ntmps12
    go_wp2_with fail
    refine (ordRankI_out _ _ ho').mono ?_
    rintro r w1 ⟨rfl, hb1⟩
    obtain ⟨hc1, hf1⟩ := bcell hb1
    have B1 := Hid.mk' (bel_next (bel_one w _) hb1)
    clear hb1
    go_wp2
    refine bodyPost_ret (v := .tuple #[.agg #[.int .i64 0, .int .i64 0, .int .i64 0, .int .i64 0, .int .i64 0], .bool false]) (by simp [results, Tryz.results12, go_sem, *]) rfl ⟨rfl, ?_⟩
    exact bel_s5 B1.out (by omega) _ _ _ _ _
end Go.Proofs.YtbicmmbajknceaaGreat
namespace Go.Proofs.YtbicmmbajknceaaGreat
open Go.RowKit
set_option linter.unusedVariables false

def rkW (o : Int) (m : M) : Int := if o = 1 then rkD m else if o = 3 then rkO m else rkL m
theorem rkW_ord {o : Int} {a b : M} (ho : 1 ≤ o ∧ o ≤ 3) (ha : a.ok = true) (hb : b.ok = true) : M.ord o a b = c3 (rkW o a) (rkW o b) := by
  obtain ⟨h1, h2⟩ := ho
  have h : o = 1 ∨ o = 2 ∨ o = 3 := by omega
  rcases h with rfl | rfl | rfl
  · rw [← rk_deg ha hb]; simp [rkW]
  · rw [← rk_two ha hb]; simp [rkW]
  · rw [← rk_out ha hb]; simp [rkW]
theorem rkW_wt (o : Int) : Wt (rkW o) := fun a b i k => by
  unfold rkW rkD rkO rkL M.sum
  split
  · simp only; omega
  · split
    · simp only; omega
    · simp only; omega
theorem dig16 {a b c d : Int} (hb : 0 ≤ b ∧ b ≤ 15) (hd : 0 ≤ d ∧ d ≤ 15) (h : a * 16 + b = c * 16 + d) : a = c ∧ b = d := by omega
theorem dig65 {a b c d : Int} (hb : 0 ≤ b ∧ b ≤ 65535) (hd : 0 ≤ d ∧ d ≤ 65535) (h : a * 65536 + b = c * 65536 + d) : b = d := by omega
theorem rkL_bdW {a : M} (ha : a.ok = true) : 0 ≤ rkL a ∧ rkL a ≤ 65535 := by
  obtain ⟨x1, x2, y1, y2, d1, d2, e1, e2⟩ := M.ok_iff.1 ha
  unfold rkL
  omega
theorem rkL_injW {a b : M} (ha : a.ok = true) (hb : b.ok = true) (h : rkL a = rkL b) : a = b := by
  obtain ⟨x1, x2, y1, y2, d1, d2, e1, e2⟩ := M.ok_iff.1 ha
  obtain ⟨x3, x4, y3, y4, d3, d4, e3, e4⟩ := M.ok_iff.1 hb
  unfold rkL at h
  have k1 := dig16 ⟨y1, y2⟩ ⟨y3, y4⟩ h
  have k2 := dig16 ⟨x1, x2⟩ ⟨x3, x4⟩ k1.1
  have k3 := dig16 ⟨e1, e2⟩ ⟨e3, e4⟩ k2.1
  have q1 := k1.2
  have q2 := k2.2
  have q3 := k3.2
  have q4 := k3.1
  revert q1 q2 q3 q4
  cases a; cases b
  intro q1 q2 q3 q4
  simp only at q1 q2 q3 q4
  rw [q1, q2, q3, q4]
theorem rkW_inj {o : Int} (a b : M) (ha : a.ok = true) (hb : b.ok = true) (h : rkW o a = rkW o b) : a = b := by
  refine rkL_injW ha hb ?_
  have ba := rkL_bdW ha
  have bb := rkL_bdW hb
  unfold rkW at h
  split at h
  · exact dig65 ba bb h
  · split at h
    · exact dig65 ba bb h
    · exact h
theorem c3_gtW {a b : Int} : 0 < c3 a b ↔ b < a := by unfold c3; split <;> (try split) <;> omega
theorem lead_topW {o : Int} {f : Nat → T} {n : Nat} (ho : 1 ≤ o ∧ o ≤ 3) (hm : ∀ i, i < n → (f i).m.ok = true) : ∀ (u i k : Nat), i + u ≤ n → k < n → leadFrom o f u i k < n ∧ rkW o (f k).m ≤ rkW o (f (leadFrom o f u i k)).m ∧ ∀ j, i ≤ j → j < i + u → rkW o (f j).m ≤ rkW o (f (leadFrom o f u i k)).m
  | 0, i, k, _, hk => ⟨hk, Int.le_refl _, fun j h1 h2 => by omega⟩
  | u + 1, i, k, hi, hk => by
    have hc := c3_gtW (a := rkW o (f i).m) (b := rkW o (f k).m)
    rw [← rkW_ord ho (hm i (by omega)) (hm k hk)] at hc
    simp only [leadFrom]
    split
    · rename_i h
      obtain ⟨h1, h2, h3⟩ := lead_topW ho hm u (i + 1) i (by omega) (by omega)
      have h4 := hc.1 h
      refine ⟨h1, by omega, fun j hj1 hj2 => ?_⟩
      by_cases hji : j = i
      · rw [hji]; exact h2
      · exact h3 j (by omega) (by omega)
    · rename_i h
      obtain ⟨h1, h2, h3⟩ := lead_topW ho hm u (i + 1) k (by omega) hk
      have h4 : ¬ rkW o (f k).m < rkW o (f i).m := fun q => h (hc.2 q)
      refine ⟨h1, h2, fun j hj1 hj2 => ?_⟩
      by_cases hji : j = i
      · rw [hji]; omega
      · exact h3 j (by omega) (by omega)
def ldT (o : Int) (L : List T) : T := leadT o L.length (lf L)
def ldB (o : Int) (L : List T) : Bool := leadOk o L.length (lf L)
theorem ldB_iff {o : Int} {L : List T} : ldB o L = true ↔ (1 ≤ o ∧ o ≤ 3) ∧ okL L = true ∧ L ≠ [] := by
  unfold ldB leadOk
  rw [Bool.and_eq_true, Bool.and_eq_true, decide_eq_true_eq, decide_eq_true_eq]
  constructor
  · rintro ⟨⟨h1, h2⟩, h3⟩
    exact ⟨h1, h2, fun e => by rw [e] at h3; simp at h3⟩
  · rintro ⟨h1, h2, h3⟩
    exact ⟨⟨h1, h2⟩, List.length_pos_iff.2 h3⟩
/-- the greatest term stands in it, and none is greater. -/
theorem ld_top {o : Int} {L : List T} (h : ldB o L = true) : ldT o L ∈ L ∧ ∀ t ∈ L, rkW o t.m ≤ rkW o (ldT o L).m := by
  obtain ⟨ho, oL, hne⟩ := ldB_iff.1 h
  have hpos := List.length_pos_iff.2 hne
  have fl := fl_of_ok (show polOk L.length (lf L) = true from oL)
  have e : ldT o L = lf L (leadAt o (lf L) L.length) := leadT_yes h
  have hm : ∀ i, i < L.length → (lf L i).m.ok = true := fun i hi => (fl.2 i hi).1
  have key := lead_topW (o := o) (f := lf L) (n := L.length) ho hm (L.length - 1) 1 0 (by omega) hpos
  have e2 : leadAt o (lf L) L.length = leadFrom o (lf L) (L.length - 1) 1 0 := rfl
  rw [e, e2]
  refine ⟨?_, fun t ht => ?_⟩
  · rw [lf_eq key.1]; exact List.getElem_mem _
  · obtain ⟨i, hi, rfl⟩ := List.mem_iff_getElem.1 ht
    by_cases h0 : i = 0
    · subst h0
      have := key.2.1
      rwa [lf_eq hpos] at this
    · have := key.2.2 i (by omega) (by omega)
      rwa [lf_eq hi] at this
theorem wm_nil_l {B P : List T} (h : wmV [] B = (P, true)) : P = [] := by
  have h1 := Rp_mul stdG h
  rw [Rp_nil, Lq.nil_mul] at h1
  exact nil_of_Rp (wm_falls h) h1
theorem wm_nil_r {A P : List T} (h : wmV A [] = (P, true)) : P = [] := by
  have h1 := Rp_mul stdG h
  rw [Rp_nil, Lq.mul_nil] at h1
  exact nil_of_Rp (wm_falls h) h1
theorem ld_nil (o : Int) : ldB o [] = false := by
  cases h : ldB o []
  · rfl
  · exact absurd rfl (ldB_iff.1 h).2.2
theorem ld_prod {o : Int} (ho : 1 ≤ o ∧ o ≤ 3) {A B P : List T} (h : wmV A B = (P, true)) : ldB o P = (ldB o A && ldB o B) ∧ (ldB o A = true → ldB o B = true → M.mul ⟨(ldT o A).m.x, (ldT o A).m.y, (ldT o A).m.d, (ldT o A).m.e⟩ ⟨(ldT o B).m.x, (ldT o B).m.y, (ldT o B).m.d, (ldT o B).m.e⟩ = ((ldT o P).m, true) ∧ fMul (ldT o A).c (ldT o B).c = (ldT o P).c) := by
  obtain ⟨oA, oB⟩ := wm_args h
  cases hA : ldB o A
  · have eA : A = [] := by
      by_cases e : A = []
      · exact e
      · rw [ldB_iff.2 ⟨ho, oA, e⟩] at hA; cases hA
    subst eA
    rw [wm_nil_l h, ld_nil]
    exact ⟨rfl, fun q => by cases q⟩
  · cases hB : ldB o B
    · have eB : B = [] := by
        by_cases e : B = []
        · exact e
        · rw [ldB_iff.2 ⟨ho, oB, e⟩] at hB; cases hB
      subst eB
      rw [wm_nil_r h, ld_nil]
      exact ⟨rfl, fun _ q => by cases q⟩
    · obtain ⟨a1, a2⟩ := ld_top hA
      obtain ⟨b1, b2⟩ := ld_top hB
      have hp := lead_prod (rkW_wt o) rkW_inj h a1 b1 a2 b2
      have hne : P ≠ [] := fun e => by rw [e] at hp; cases hp.1
      have hP : ldB o P = true := ldB_iff.2 ⟨ho, wm_ok h, hne⟩
      refine ⟨hP, fun _ _ => ?_⟩
      obtain ⟨p1, p2⟩ := ld_top hP
      have fP := wm_falls h
      have r1 := fP.2 _ p1
      have hs := (wm_lin h).2 _ a1 _ b1
      have l1 := hp.2 _ p1
      have l2 := p2 _ hp.1
      dsimp only at l2
      have em : (ldT o P).m = (ldT o A).m.sum (ldT o B).m := by
        refine rkW_inj (o := o) _ _ r1.1 hs ?_
        exact Int.le_antisymm l1 l2
      have ra := (okL_falls oA).2.2 _ a1
      have rb := (okL_falls oB).2.2 _ b1
      have ec : (ldT o P).c = (ldT o A).c * (ldT o B).c % 101 := by
        have h1 : ∀ X : List T, Falls X → ∀ t ∈ X, ∀ s ∈ X, t.m = s.m → t = s := fun X hX => by
          induction X with
          | nil => intro t ht; cases ht
          | cons z r ih =>
            intro t ht s hs e
            have hp := (List.pairwise_cons.1 hX.1).1
            rcases List.mem_cons.1 ht with rfl | ht'
            · rcases List.mem_cons.1 hs with rfl | hs'
              · rfl
              · have := hp s hs'; rw [e] at this; omega
            · rcases List.mem_cons.1 hs with rfl | hs'
              · have := hp t ht'; rw [e] at this; omega
              · exact ih hX.tail t ht' s hs' e
        rw [h1 P fP _ p1 _ hp.1 em]
      refine ⟨?_, ?_⟩
      · rw [em]
        have e3 : ∀ m : M, (⟨m.x, m.y, m.d, m.e⟩ : M) = m := fun m => by cases m; rfl
        rw [e3, e3]
        unfold M.mul
        simp [ra.1, rb.1, hs]
      · rw [ec, fMul_in (by omega) ra.2.2 (by omega) rb.2.2]
theorem ldI_L (o : Int) {w : World} {a : Option Addr} {ca : Nat} {L : List T} (ha : RL w a ca L) : Calls Tryz.prog 12 #[.int .i64 o, .slice a L.length ca] w fun r w' => r = .returned (.tuple #[.agg #[.int .i64 (ldT o L).c, .int .i64 (ldT o L).m.x, .int .i64 (ldT o L).m.y, .int .i64 (ldT o L).m.d, .int .i64 (ldT o L).m.e], .bool (ldB o L)]) ∧ Below w.heap.size w w' := polLeadI w o a L.length ca (lf L) ha
end Go.Proofs.YtbicmmbajknceaaGreat
namespace Go.Proofs.YtbicmmbajknceaaGreat
open Go.RowKit
set_option linter.unusedVariables false

def S8 (u : World) (n : Nat) (x0 y0 z0 u0 x1 y1 z1 u1 : Int) : Prop := u.cell? ⟨n, 0, none⟩ = some (.int .i64 x0) ∧ u.cell? ⟨n, 1, none⟩ = some (.int .i64 y0) ∧ u.cell? ⟨n, 2, none⟩ = some (.int .i64 z0) ∧ u.cell? ⟨n, 3, none⟩ = some (.int .i64 u0) ∧ u.cell? ⟨n + 1, 0, none⟩ = some (.int .i64 x1) ∧ u.cell? ⟨n + 1, 1, none⟩ = some (.int .i64 y1) ∧ u.cell? ⟨n + 1, 2, none⟩ = some (.int .i64 z1) ∧ u.cell? ⟨n + 1, 3, none⟩ = some (.int .i64 u1)
theorem S8.mk {u : World} {n : Nat} {x0 y0 z0 u0 x1 y1 z1 u1 : Int} (ha : M4 u n x0 y0 z0 u0) (hb : M4 u (n + 1) x1 y1 z1 u1) : S8 u n x0 y0 z0 u0 x1 y1 z1 u1 :=
  ⟨ha.1, ha.2.1, ha.2.2.1, ha.2.2.2, hb.1, hb.2.1, hb.2.2.1, hb.2.2.2⟩
theorem S8.a {u : World} {n : Nat} {x0 y0 z0 u0 x1 y1 z1 u1 : Int} (h : S8 u n x0 y0 z0 u0 x1 y1 z1 u1) : M4 u n x0 y0 z0 u0 := ⟨h.1, h.2.1, h.2.2.1, h.2.2.2.1⟩
theorem S8.b {u : World} {n : Nat} {x0 y0 z0 u0 x1 y1 z1 u1 : Int} (h : S8 u n x0 y0 z0 u0 x1 y1 z1 u1) : M4 u (n + 1) x1 y1 z1 u1 := ⟨h.2.2.2.2.1, h.2.2.2.2.2.1, h.2.2.2.2.2.2.1, h.2.2.2.2.2.2.2⟩
theorem s8_drew {u : World} {n : Nat} {x0 y0 z0 u0 x1 y1 z1 u1 : Int} (h : S8 u n x0 y0 z0 u0 x1 y1 z1 u1) : S8 u.drew n x0 y0 z0 u0 x1 y1 z1 u1 := .mk h.a.drew' h.b.drew'
theorem m4_far {u : World} {B b : Nat} {v0 v1 v2 v3 : Value} {x y d e : Int} (m : M4 u b x y d e) (h : b ≠ B) : M4 ((((u.setCell ⟨B, 0, none⟩ v0).setCell ⟨B, 1, none⟩ v1).setCell ⟨B, 2, none⟩ v2).setCell ⟨B, 3, none⟩ v3) b x y d e :=
  ⟨(far4 h).trans m.1, (far4 h).trans m.2.1, (far4 h).trans m.2.2.1, (far4 h).trans m.2.2.2⟩
theorem s8_set {u : World} {n B : Nat} {v0 v1 v2 v3 : Value} {x0 y0 z0 u0 x1 y1 z1 u1 : Int} (h : S8 u n x0 y0 z0 u0 x1 y1 z1 u1) (hB : n + 1 < B) : S8 ((((u.setCell ⟨B, 0, none⟩ v0).setCell ⟨B, 1, none⟩ v1).setCell ⟨B, 2, none⟩ v2).setCell ⟨B, 3, none⟩ v3) n x0 y0 z0 u0 x1 y1 z1 u1 :=
  .mk (m4_far h.a (by omega)) (m4_far h.b (by omega))
set_option maxHeartbeats 4000000 in
theorem monBothS (x y d e x' y' d' e' : Int) (w : World) :
    Calls Tryz.prog 82 #[.agg #[.int .i64 x, .int .i64 y, .int .i64 d, .int .i64 e], .agg #[.int .i64 x', .int .i64 y', .int .i64 d', .int .i64 e']] w fun r w' => r = .returned (.agg #[.int .i64 (M.both ⟨x, y, d, e⟩ ⟨x', y', d', e'⟩).x, .int .i64 (M.both ⟨x, y, d, e⟩ ⟨x', y', d', e'⟩).y, .int .i64 (M.both ⟨x, y, d, e⟩ ⟨x', y', d', e'⟩).d, .int .i64 (M.both ⟨x, y, d, e⟩ ⟨x', y', d', e'⟩).e]) ∧ Below w.heap.size w w' := by
  cases ha : M.ok ⟨x, y, d, e⟩
  · have r1 : M.both ⟨x, y, d, e⟩ ⟨x', y', d', e'⟩ = M.zero := by simp [M.both, ha]
    rw [r1]
    simp only [M.zero]
    clear r1
    go_enter Tryz.func82, Tryz.ntmps82
    go_wp2_with fail
    refine (monOkS_of ha _).mono ?_
    rintro r w1 ⟨rfl, hb1⟩
    obtain ⟨hc1, hf1⟩ := bcell hb1
    have hz1 : w.heap.size + 1 + 1 < w1.heap.size := by have := hb1.size; simp at this; omega
    go_wp2
    refine bodyPost_ret (v := .agg #[.int .i64 0, .int .i64 0, .int .i64 0, .int .i64 0]) (by simp [results, Tryz.results82, go_sem, *]) rfl ⟨rfl, ?_⟩
    exact bel_set4 (bel_next (bel_three w _ _ _) hb1) (by omega) _ _ _ _
  · cases hb : M.ok ⟨x', y', d', e'⟩
    · have r1 : M.both ⟨x, y, d, e⟩ ⟨x', y', d', e'⟩ = M.zero := by simp [M.both, hb]
      rw [r1]
      simp only [M.zero]
      clear r1
      go_enter Tryz.func82, Tryz.ntmps82
      go_wp2_with fail
      refine (monOkS_of ha _).mono ?_
      rintro r w1 ⟨rfl, hb1⟩
      obtain ⟨hc1, hf1⟩ := bcell hb1
      have hz1 : w.heap.size + 1 + 1 < w1.heap.size := by have := hb1.size; simp at this; omega
      go_wp2_with fail
      refine (monOkS_of hb _).mono ?_
      rintro r w2 ⟨rfl, hb2⟩
      obtain ⟨hc2, hf2⟩ := bcell hb2
      have hz2 : w.heap.size + 1 + 1 < w2.heap.size := by have := hb2.size; omega
      go_wp2
      refine bodyPost_ret (v := .agg #[.int .i64 0, .int .i64 0, .int .i64 0, .int .i64 0]) (by simp [results, Tryz.results82, go_sem, *]) rfl ⟨rfl, ?_⟩
      exact bel_set4 (bel_next (bel_next (bel_three w _ _ _) hb1) hb2) (by omega) _ _ _ _
    · have r1 : M.both ⟨x, y, d, e⟩ ⟨x', y', d', e'⟩ = ⟨mx x x', mx y y', mx d d', mx e e'⟩ := by simp [M.both, ha, hb]
      rw [r1]
      clear r1
      go_enter Tryz.func82, Tryz.ntmps82
      go_wp2_with fail
      refine (monOkS_of ha _).mono ?_
      rintro r w1 ⟨rfl, hb1⟩
      obtain ⟨hc1, hf1⟩ := bcell hb1
      have hz1 : w.heap.size + 1 + 1 < w1.heap.size := by have := hb1.size; simp at this; omega
      have hz0 : w.heap.size + 1 < w1.heap.size := by omega
      have hzz : w.heap.size < w1.heap.size := by omega
      go_wp2_with fail
      refine (monOkS_of hb _).mono ?_
      rintro r w2 ⟨rfl, hb2⟩
      obtain ⟨hc2, hf2⟩ := bcell hb2
      have hz2 : w.heap.size + 1 + 1 < w2.heap.size := by have := hb2.size; omega
      have q0 : w2.cell? ⟨w.heap.size, 0, none⟩ = some (.int .i64 x) := by go_simp
      have q1 : w2.cell? ⟨w.heap.size, 1, none⟩ = some (.int .i64 y) := by go_simp
      have q2 : w2.cell? ⟨w.heap.size, 2, none⟩ = some (.int .i64 d) := by go_simp
      have q3 : w2.cell? ⟨w.heap.size, 3, none⟩ = some (.int .i64 e) := by go_simp
      have p0 : w2.cell? ⟨w.heap.size + 1, 0, none⟩ = some (.int .i64 x') := by go_simp
      have p1 : w2.cell? ⟨w.heap.size + 1, 1, none⟩ = some (.int .i64 y') := by go_simp
      have p2 : w2.cell? ⟨w.heap.size + 1, 2, none⟩ = some (.int .i64 d') := by go_simp
      have p3 : w2.cell? ⟨w.heap.size + 1, 3, none⟩ = some (.int .i64 e') := by go_simp
      have t0 : w2.cell? ⟨w.heap.size + 1 + 1, 0, none⟩ = some (.int .i64 0) := by go_simp
      have t1 : w2.cell? ⟨w.heap.size + 1 + 1, 1, none⟩ = some (.int .i64 0) := by go_simp
      have t2 : w2.cell? ⟨w.heap.size + 1 + 1, 2, none⟩ = some (.int .i64 0) := by go_simp
      have t3 : w2.cell? ⟨w.heap.size + 1 + 1, 3, none⟩ = some (.int .i64 0) := by go_simp
      have z0 : ∀ i, w2.frozen? ⟨w.heap.size + 1 + 1, i, none⟩ = false := fun i => by go_simp
      have HB := Hid.mk' (bel_next (bel_next (bel_three w _ _ _) hb1) hb2)
      clear hc1 hf1 hc2 hf2 hb1 hb2
      go_wp2_with fail
      have hS0 : S8 w2 w.heap.size x y d e x' y' d' e' := ⟨q0, q1, q2, q3, p0, p1, p2, p3⟩
      go_region_held3 (fun u => u.cell? ⟨w.heap.size, 0, none⟩ = some (.int .i64 x) ∧ u.cell? ⟨w.heap.size, 1, none⟩ = some (.int .i64 y) ∧ u.cell? ⟨w.heap.size, 2, none⟩ = some (.int .i64 d) ∧ u.cell? ⟨w.heap.size, 3, none⟩ = some (.int .i64 e) ∧ u.cell? ⟨w.heap.size + 1, 0, none⟩ = some (.int .i64 x') ∧ u.cell? ⟨w.heap.size + 1, 1, none⟩ = some (.int .i64 y') ∧ u.cell? ⟨w.heap.size + 1, 2, none⟩ = some (.int .i64 d') ∧ u.cell? ⟨w.heap.size + 1, 3, none⟩ = some (.int .i64 e')) (first | exact s8_drew hS0 | exact s8_set (by assumption) (by omega)) (first | (go_at_call 115; refine (maxS _ _ _).mono ?_; rintro r w7 ⟨rfl, hw7⟩; obtain rfl := hw7.symm; clear hw7))
      go_wp2
      refine bodyPost_ret (v := .agg #[.int .i64 (mx x x'), .int .i64 (mx y y'), .int .i64 (mx d d'), .int .i64 (mx e e')]) (by simp [results, Tryz.results82, go_sem, *]) rfl ⟨rfl, ?_⟩
      exact bel_set4 HB.out.drew (by omega) _ _ _ _
set_option maxHeartbeats 4000000 in
theorem monBothI (x y d e x' y' d' e' : Int) (w : World) :
    Calls Tryz.prog 13 #[.agg #[.int .i64 x, .int .i64 y, .int .i64 d, .int .i64 e], .agg #[.int .i64 x', .int .i64 y', .int .i64 d', .int .i64 e']] w fun r w' => r = .returned (.agg #[.int .i64 (M.both ⟨x, y, d, e⟩ ⟨x', y', d', e'⟩).x, .int .i64 (M.both ⟨x, y, d, e⟩ ⟨x', y', d', e'⟩).y, .int .i64 (M.both ⟨x, y, d, e⟩ ⟨x', y', d', e'⟩).d, .int .i64 (M.both ⟨x, y, d, e⟩ ⟨x', y', d', e'⟩).e]) ∧ Below w.heap.size w w' := by
  cases ha : M.ok ⟨x, y, d, e⟩
  · have r1 : M.both ⟨x, y, d, e⟩ ⟨x', y', d', e'⟩ = M.zero := by simp [M.both, ha]
    rw [r1]
    simp only [M.zero]
    clear r1
    go_enter Tryz.func13, Tryz.ntmps13
    go_wp2_with fail
    refine (monOkI_of ha _).mono ?_
    rintro r w1 ⟨rfl, hb1⟩
    obtain ⟨hc1, hf1⟩ := bcell hb1
    have hz1 : w.heap.size + 1 + 1 < w1.heap.size := by have := hb1.size; simp at this; omega
    go_wp2
    refine bodyPost_ret (v := .agg #[.int .i64 0, .int .i64 0, .int .i64 0, .int .i64 0]) (by simp [results, Tryz.results13, go_sem, *]) rfl ⟨rfl, ?_⟩
    exact bel_set4 (bel_next (bel_three w _ _ _) hb1) (by omega) _ _ _ _
  · cases hb : M.ok ⟨x', y', d', e'⟩
    · have r1 : M.both ⟨x, y, d, e⟩ ⟨x', y', d', e'⟩ = M.zero := by simp [M.both, hb]
      rw [r1]
      simp only [M.zero]
      clear r1
      go_enter Tryz.func13, Tryz.ntmps13
      go_wp2_with fail
      refine (monOkI_of ha _).mono ?_
      rintro r w1 ⟨rfl, hb1⟩
      obtain ⟨hc1, hf1⟩ := bcell hb1
      have hz1 : w.heap.size + 1 + 1 < w1.heap.size := by have := hb1.size; simp at this; omega
      go_wp2_with fail
      refine (monOkI_of hb _).mono ?_
      rintro r w2 ⟨rfl, hb2⟩
      obtain ⟨hc2, hf2⟩ := bcell hb2
      have hz2 : w.heap.size + 1 + 1 < w2.heap.size := by have := hb2.size; omega
      go_wp2
      refine bodyPost_ret (v := .agg #[.int .i64 0, .int .i64 0, .int .i64 0, .int .i64 0]) (by simp [results, Tryz.results13, go_sem, *]) rfl ⟨rfl, ?_⟩
      exact bel_set4 (bel_next (bel_next (bel_three w _ _ _) hb1) hb2) (by omega) _ _ _ _
    · have r1 : M.both ⟨x, y, d, e⟩ ⟨x', y', d', e'⟩ = ⟨mx x x', mx y y', mx d d', mx e e'⟩ := by simp [M.both, ha, hb]
      rw [r1]
      clear r1
      go_enter Tryz.func13, Tryz.ntmps13
      go_wp2_with fail
      refine (monOkI_of ha _).mono ?_
      rintro r w1 ⟨rfl, hb1⟩
      obtain ⟨hc1, hf1⟩ := bcell hb1
      have hz1 : w.heap.size + 1 + 1 < w1.heap.size := by have := hb1.size; simp at this; omega
      have hz0 : w.heap.size + 1 < w1.heap.size := by omega
      have hzz : w.heap.size < w1.heap.size := by omega
      go_wp2_with fail
      refine (monOkI_of hb _).mono ?_
      rintro r w2 ⟨rfl, hb2⟩
      obtain ⟨hc2, hf2⟩ := bcell hb2
      have hz2 : w.heap.size + 1 + 1 < w2.heap.size := by have := hb2.size; omega
      have q0 : w2.cell? ⟨w.heap.size, 0, none⟩ = some (.int .i64 x) := by go_simp
      have q1 : w2.cell? ⟨w.heap.size, 1, none⟩ = some (.int .i64 y) := by go_simp
      have q2 : w2.cell? ⟨w.heap.size, 2, none⟩ = some (.int .i64 d) := by go_simp
      have q3 : w2.cell? ⟨w.heap.size, 3, none⟩ = some (.int .i64 e) := by go_simp
      have p0 : w2.cell? ⟨w.heap.size + 1, 0, none⟩ = some (.int .i64 x') := by go_simp
      have p1 : w2.cell? ⟨w.heap.size + 1, 1, none⟩ = some (.int .i64 y') := by go_simp
      have p2 : w2.cell? ⟨w.heap.size + 1, 2, none⟩ = some (.int .i64 d') := by go_simp
      have p3 : w2.cell? ⟨w.heap.size + 1, 3, none⟩ = some (.int .i64 e') := by go_simp
      have t0 : w2.cell? ⟨w.heap.size + 1 + 1, 0, none⟩ = some (.int .i64 0) := by go_simp
      have t1 : w2.cell? ⟨w.heap.size + 1 + 1, 1, none⟩ = some (.int .i64 0) := by go_simp
      have t2 : w2.cell? ⟨w.heap.size + 1 + 1, 2, none⟩ = some (.int .i64 0) := by go_simp
      have t3 : w2.cell? ⟨w.heap.size + 1 + 1, 3, none⟩ = some (.int .i64 0) := by go_simp
      have z0 : ∀ i, w2.frozen? ⟨w.heap.size + 1 + 1, i, none⟩ = false := fun i => by go_simp
      have HB := Hid.mk' (bel_next (bel_next (bel_three w _ _ _) hb1) hb2)
      clear hc1 hf1 hc2 hf2 hb1 hb2
      go_wp2
      all_goals
        refine bodyPost_ret (v := .agg #[.int .i64 (mx x x'), .int .i64 (mx y y'), .int .i64 (mx d d'), .int .i64 (mx e e')]) (by simp [results, Tryz.results13, go_sem, *]; (repeat' apply And.intro) <;> (unfold mx; split <;> omega)) rfl ⟨rfl, ?_⟩
        exact bel_set4 HB.out (by omega) _ _ _ _
end Go.Proofs.YtbicmmbajknceaaGreat
