/-
  The two terms of a pair of operators: the program and the model.
-/
import Derived.Test.YtbicmmbajknceaaGreatGba
import Derived.Test.YtbicmmbajknceaaGreatGbc
import Derived.Deep.RegionHeld3
import Derived.Deep.Light
namespace Go.Proofs.YtbicmmbajknceaaGreat
open Go.RowKit Go.Deep Go.Joins
set_option linter.unusedVariables false

/-- the term that, times a greatest term, is 1 times a monomial. -/
def sprT (l : T) (b : M) : T := ⟨fInv l.c, (M.over b l.m).1⟩
def sprOk (o : Int) (n : Nat) (f : Nat → T) (m : Nat) (g : Nat → T) : Bool := leadOk o n f && leadOk o m g
def sprB (o : Int) (n : Nat) (f : Nat → T) (m : Nat) (g : Nat → T) : M := M.both (leadT o n f).m (leadT o m g).m
def sprU (o : Int) (n : Nat) (f : Nat → T) (m : Nat) (g : Nat → T) : T := if sprOk o n f m g = true then sprT (leadT o n f) (sprB o n f m g) else zeroT
def sprV (o : Int) (n : Nat) (f : Nat → T) (m : Nat) (g : Nat → T) : T := if sprOk o n f m g = true then sprT (leadT o m g) (sprB o n f m g) else zeroT
theorem L5.set5 {b o B : Nat} {v : Value} {m : M} {u : World} {D : Nat} {v0 v1 v2 v3 v4 : Value} (h : L5 b o B v m u) (h1 : b ≠ D) (h2 : B ≠ D) : L5 b o B v m (((((u.setCell ⟨D, 0, none⟩ v0).setCell ⟨D, 1, none⟩ v1).setCell ⟨D, 2, none⟩ v2).setCell ⟨D, 3, none⟩ v3).setCell ⟨D, 4, none⟩ v4) :=
  ⟨(far5 h1).trans h.1, (far5 h2).trans h.2.1, (far5 h2).trans h.2.2.1, (far5 h2).trans h.2.2.2.1, (far5 h2).trans h.2.2.2.2⟩
theorem bel_s5a {B : Nat} {a w : World} {O : Obj} (h : Below a.heap.size a w) (hB : a.heap.size ≤ B) (u0 u1 u2 u3 u4 : Value) : Below a.heap.size a ((((((w.setCell ⟨B, 0, none⟩ u0).setCell ⟨B, 1, none⟩ u1).setCell ⟨B, 2, none⟩ u2).setCell ⟨B, 3, none⟩ u3).setCell ⟨B, 4, none⟩ u4).alloc O).drew :=
  have k := bel_s5 h hB u0 u1 u2 u3 u4
  (k.alloc k.size O).drew
/-- two terms and a monomial in boxes. -/
abbrev L14 (A B C : Nat) (s t : T) (m : M) (u : World) : Prop := u.cell? ⟨A, 0, none⟩ = some (.int .i64 s.c) ∧ u.cell? ⟨A, 1, none⟩ = some (.int .i64 s.m.x) ∧ u.cell? ⟨A, 2, none⟩ = some (.int .i64 s.m.y) ∧ u.cell? ⟨A, 3, none⟩ = some (.int .i64 s.m.d) ∧ u.cell? ⟨A, 4, none⟩ = some (.int .i64 s.m.e) ∧ u.cell? ⟨B, 0, none⟩ = some (.int .i64 t.c) ∧ u.cell? ⟨B, 1, none⟩ = some (.int .i64 t.m.x) ∧ u.cell? ⟨B, 2, none⟩ = some (.int .i64 t.m.y) ∧ u.cell? ⟨B, 3, none⟩ = some (.int .i64 t.m.d) ∧ u.cell? ⟨B, 4, none⟩ = some (.int .i64 t.m.e) ∧ u.cell? ⟨C, 0, none⟩ = some (.int .i64 m.x) ∧ u.cell? ⟨C, 1, none⟩ = some (.int .i64 m.y) ∧ u.cell? ⟨C, 2, none⟩ = some (.int .i64 m.d) ∧ u.cell? ⟨C, 3, none⟩ = some (.int .i64 m.e)
theorem L14.below {A B C : Nat} {s t : T} {m : M} {u u' : World} (h : L14 A B C s t m u) (hb : Below u.heap.size u u') : L14 A B C s t m u' :=
  have l1 := World.block_lt_of_cell? u ⟨A, 0, none⟩ h.1
  have l2 := World.block_lt_of_cell? u ⟨B, 0, none⟩ h.2.2.2.2.2.1
  have l3 := World.block_lt_of_cell? u ⟨C, 0, none⟩ h.2.2.2.2.2.2.2.2.2.2.1
  ⟨(hb.cell (p := ⟨A, 0, none⟩) l1).trans h.1, (hb.cell (p := ⟨A, 1, none⟩) l1).trans h.2.1, (hb.cell (p := ⟨A, 2, none⟩) l1).trans h.2.2.1, (hb.cell (p := ⟨A, 3, none⟩) l1).trans h.2.2.2.1, (hb.cell (p := ⟨A, 4, none⟩) l1).trans h.2.2.2.2.1, (hb.cell (p := ⟨B, 0, none⟩) l2).trans h.2.2.2.2.2.1, (hb.cell (p := ⟨B, 1, none⟩) l2).trans h.2.2.2.2.2.2.1, (hb.cell (p := ⟨B, 2, none⟩) l2).trans h.2.2.2.2.2.2.2.1, (hb.cell (p := ⟨B, 3, none⟩) l2).trans h.2.2.2.2.2.2.2.2.1, (hb.cell (p := ⟨B, 4, none⟩) l2).trans h.2.2.2.2.2.2.2.2.2.1, (hb.cell (p := ⟨C, 0, none⟩) l3).trans h.2.2.2.2.2.2.2.2.2.2.1, (hb.cell (p := ⟨C, 1, none⟩) l3).trans h.2.2.2.2.2.2.2.2.2.2.2.1, (hb.cell (p := ⟨C, 2, none⟩) l3).trans h.2.2.2.2.2.2.2.2.2.2.2.2.1, (hb.cell (p := ⟨C, 3, none⟩) l3).trans h.2.2.2.2.2.2.2.2.2.2.2.2.2⟩
theorem far10 {w : World} {B b o : Nat} {v0 v1 v2 v3 v4 v5 v6 v7 v8 v9 : Value} (h : b ≠ B) : ((((((((((w.setCell ⟨B, 0, none⟩ v0).setCell ⟨B, 1, none⟩ v1).setCell ⟨B, 2, none⟩ v2).setCell ⟨B, 3, none⟩ v3).setCell ⟨B, 4, none⟩ v4).setCell ⟨B, 5, none⟩ v5).setCell ⟨B, 6, none⟩ v6).setCell ⟨B, 7, none⟩ v7).setCell ⟨B, 8, none⟩ v8).setCell ⟨B, 9, none⟩ v9).cell? ⟨b, o, none⟩ = w.cell? ⟨b, o, none⟩ := by
  refine World.cell?_of_block ?_
  rw [Below.heap_setCell _ _ _ _ h, Below.heap_setCell _ _ _ _ h, Below.heap_setCell _ _ _ _ h, Below.heap_setCell _ _ _ _ h, Below.heap_setCell _ _ _ _ h, Below.heap_setCell _ _ _ _ h, Below.heap_setCell _ _ _ _ h, Below.heap_setCell _ _ _ _ h, Below.heap_setCell _ _ _ _ h, Below.heap_setCell _ _ _ _ h]
/-- a block of ten noughts that may be written. -/
def Z10 (D : Nat) (u : World) : Prop := (∀ i, i < 10 → u.cell? ⟨D, i, none⟩ = some (.int .i64 0)) ∧ ∀ i, u.frozen? ⟨D, i, none⟩ = false
theorem Z10.below {D : Nat} {u u' : World} (h : Z10 D u) (hb : Below u.heap.size u u') : Z10 D u' :=
  have l := World.block_lt_of_cell? u ⟨D, 0, none⟩ (h.1 0 (by omega))
  ⟨fun i hi => (hb.cell (p := ⟨D, i, none⟩) l).trans (h.1 i hi), fun i => (hb.frozen (p := ⟨D, i, none⟩) l).trans (h.2 i)⟩
theorem L14.set10 {A B C : Nat} {s t : T} {m : M} {u : World} {D : Nat} {v0 v1 v2 v3 v4 v5 v6 v7 v8 v9 : Value} (h : L14 A B C s t m u) (h1 : A ≠ D) (h2 : B ≠ D) (h3 : C ≠ D) : L14 A B C s t m ((((((((((u.setCell ⟨D, 0, none⟩ v0).setCell ⟨D, 1, none⟩ v1).setCell ⟨D, 2, none⟩ v2).setCell ⟨D, 3, none⟩ v3).setCell ⟨D, 4, none⟩ v4).setCell ⟨D, 5, none⟩ v5).setCell ⟨D, 6, none⟩ v6).setCell ⟨D, 7, none⟩ v7).setCell ⟨D, 8, none⟩ v8).setCell ⟨D, 9, none⟩ v9) :=
  ⟨(far10 h1).trans h.1, (far10 h1).trans h.2.1, (far10 h1).trans h.2.2.1, (far10 h1).trans h.2.2.2.1, (far10 h1).trans h.2.2.2.2.1, (far10 h2).trans h.2.2.2.2.2.1, (far10 h2).trans h.2.2.2.2.2.2.1, (far10 h2).trans h.2.2.2.2.2.2.2.1, (far10 h2).trans h.2.2.2.2.2.2.2.2.1, (far10 h2).trans h.2.2.2.2.2.2.2.2.2.1, (far10 h3).trans h.2.2.2.2.2.2.2.2.2.2.1, (far10 h3).trans h.2.2.2.2.2.2.2.2.2.2.2.1, (far10 h3).trans h.2.2.2.2.2.2.2.2.2.2.2.2.1, (far10 h3).trans h.2.2.2.2.2.2.2.2.2.2.2.2.2⟩
theorem bel_s10 {n B : Nat} {a w : World} (h : Below n a w) (hB : n ≤ B) (v0 v1 v2 v3 v4 v5 v6 v7 v8 v9 : Value) : Below n a ((((((((((w.setCell ⟨B, 0, none⟩ v0).setCell ⟨B, 1, none⟩ v1).setCell ⟨B, 2, none⟩ v2).setCell ⟨B, 3, none⟩ v3).setCell ⟨B, 4, none⟩ v4).setCell ⟨B, 5, none⟩ v5).setCell ⟨B, 6, none⟩ v6).setCell ⟨B, 7, none⟩ v7).setCell ⟨B, 8, none⟩ v8).setCell ⟨B, 9, none⟩ v9) :=
  (((((((((h.setCell hB v0).setCell hB v1).setCell hB v2).setCell hB v3).setCell hB v4).setCell hB v5).setCell hB v6).setCell hB v7).setCell hB v8).setCell hB v9
theorem bel_s55 {B B' : Nat} {a w : World} {O : Obj} (h : Below a.heap.size a w) (hB : a.heap.size ≤ B) (hB' : a.heap.size ≤ B') (u0 u1 u2 u3 u4 u5 u6 u7 u8 u9 : Value) : Below a.heap.size a (((((((((((w.setCell ⟨B, 0, none⟩ u0).setCell ⟨B, 1, none⟩ u1).setCell ⟨B, 2, none⟩ u2).setCell ⟨B, 3, none⟩ u3).setCell ⟨B, 4, none⟩ u4).setCell ⟨B', 0, none⟩ u5).setCell ⟨B', 1, none⟩ u6).setCell ⟨B', 2, none⟩ u7).setCell ⟨B', 3, none⟩ u8).setCell ⟨B', 4, none⟩ u9).alloc O) :=
  have k := bel_s5 (bel_s5 h hB u0 u1 u2 u3 u4) hB' u5 u6 u7 u8 u9
  k.alloc k.size O
set_option maxRecDepth 100000 in
set_option maxHeartbeats 4000000 in
theorem sprFactorI (w : World) (l : T) (b : M) :
    Calls Tryz.prog 112 #[.agg #[.int .i64 l.c, .int .i64 l.m.x, .int .i64 l.m.y, .int .i64 l.m.d, .int .i64 l.m.e], .agg #[.int .i64 b.x, .int .i64 b.y, .int .i64 b.d, .int .i64 b.e]] w fun r w' => r = .returned (.agg #[.int .i64 (sprT l b).c, .int .i64 (sprT l b).m.x, .int .i64 (sprT l b).m.y, .int .i64 (sprT l b).m.d, .int .i64 (sprT l b).m.e]) ∧ Below w.heap.size w w' := by
  obtain ⟨m, bv, hm⟩ : ∃ m bv, M.over ⟨b.x, b.y, b.d, b.e⟩ ⟨l.m.x, l.m.y, l.m.d, l.m.e⟩ = (m, bv) := ⟨_, _, rfl⟩
  have e1 : sprT l b = ⟨fInv l.c, m⟩ := by unfold sprT; rw [show M.over b l.m = (m, bv) from hm]
  rw [e1]
  clear e1
  go_enter Tryz.func112, Tryz.ntmps112
  go_wp2_with fail
  refine (monOverI_of hm _).mono ?_
  rintro r w1 ⟨rfl, hb1⟩
  obtain ⟨hc1, hf1⟩ := bcell hb1
  have hz1 : w.heap.size + 1 + 1 < w1.heap.size := by have := hb1.size; simp at this; omega
  have HB1 := Hid.mk' (bel_next (bel_three w _ _ _) hb1)
  have q0 : w1.cell? ⟨w.heap.size, 0, none⟩ = some (.int .i64 l.c) := by go_simp
  have t0 : w1.cell? ⟨w.heap.size + 1 + 1, 0, none⟩ = some (.int .i64 0) := by go_simp
  have t1 : w1.cell? ⟨w.heap.size + 1 + 1, 1, none⟩ = some (.int .i64 0) := by go_simp
  have t2 : w1.cell? ⟨w.heap.size + 1 + 1, 2, none⟩ = some (.int .i64 0) := by go_simp
  have t3 : w1.cell? ⟨w.heap.size + 1 + 1, 3, none⟩ = some (.int .i64 0) := by go_simp
  have t4 : w1.cell? ⟨w.heap.size + 1 + 1, 4, none⟩ = some (.int .i64 0) := by go_simp
  have z0 : ∀ i, w1.frozen? ⟨w.heap.size + 1 + 1, i, none⟩ = false := fun i => by go_simp
  have hz2 : w.heap.size < w1.heap.size := by omega
  have HB2 := Hid.mk' (HB1.out.alloc HB1.out.size (.cells #[.int .i64 m.x, .int .i64 m.y, .int .i64 m.d, .int .i64 m.e] 31))
  have hS : L5 w.heap.size 0 w1.heap.size (.int .i64 l.c) m (w1.alloc (.cells #[.int .i64 m.x, .int .i64 m.y, .int .i64 m.d, .int .i64 m.e] 31)).drew := by
    have h4 := M4.box w1 31 m.x m.y m.d m.e
    exact ⟨(World.cell?_alloc_lt _ _ _ hz2).trans q0, h4.1, h4.2.1, h4.2.2.1, h4.2.2.2⟩
  clear hc1 hf1 hb1 hm
  go_wp2_with fail
  obtain ⟨p0, p1, p2, p3, p4⟩ := hS
  go_region_with (first | (go_at_call 139; refine (invI _ _).mono ?_; rintro r w7 ⟨rfl, hw7⟩; obtain rfl := hw7.symm; clear hw7))
  all_goals
   go_wp2
   refine bodyPost_ret (v := .agg #[.int .i64 (fInv l.c), .int .i64 m.x, .int .i64 m.y, .int .i64 m.d, .int .i64 m.e]) (by simp [results, Tryz.results112, go_sem, *]) rfl ⟨rfl, ?_⟩
   exact bel_s5a HB1.out (by omega) _ _ _ _ _
set_option maxRecDepth 100000 in
set_option maxHeartbeats 4000000 in
theorem sprOfI (w : World) (la lb : T) :
    Calls Tryz.prog 79 #[.agg #[.int .i64 la.c, .int .i64 la.m.x, .int .i64 la.m.y, .int .i64 la.m.d, .int .i64 la.m.e], .agg #[.int .i64 lb.c, .int .i64 lb.m.x, .int .i64 lb.m.y, .int .i64 lb.m.d, .int .i64 lb.m.e]] w fun r w' => r = .returned (.agg #[.int .i64 (sprT la (M.both la.m lb.m)).c, .int .i64 (sprT la (M.both la.m lb.m)).m.x, .int .i64 (sprT la (M.both la.m lb.m)).m.y, .int .i64 (sprT la (M.both la.m lb.m)).m.d, .int .i64 (sprT la (M.both la.m lb.m)).m.e, .int .i64 (sprT lb (M.both la.m lb.m)).c, .int .i64 (sprT lb (M.both la.m lb.m)).m.x, .int .i64 (sprT lb (M.both la.m lb.m)).m.y, .int .i64 (sprT lb (M.both la.m lb.m)).m.d, .int .i64 (sprT lb (M.both la.m lb.m)).m.e]) ∧ Below w.heap.size w w' := by
  obtain ⟨m, hm⟩ : ∃ m, M.both ⟨la.m.x, la.m.y, la.m.d, la.m.e⟩ ⟨lb.m.x, lb.m.y, lb.m.d, lb.m.e⟩ = m := ⟨_, rfl⟩
  rw [show M.both la.m lb.m = m from hm]
  obtain ⟨U, hU⟩ : ∃ U, sprT la m = U := ⟨_, rfl⟩
  obtain ⟨V, hV⟩ : ∃ V, sprT lb m = V := ⟨_, rfl⟩
  rw [hU, hV]
  have c1 := fun W => sprFactorI W la m
  have c2 := fun W => sprFactorI W lb m
  rw [hU] at c1
  rw [hV] at c2
  clear hU hV
  go_enter Tryz.func79, Tryz.ntmps79
  go_wp2_with fail
  refine (monBothI_of hm _).mono ?_
  rintro r w1 ⟨rfl, hb1⟩
  obtain ⟨hc1, hf1⟩ := bcell hb1
  have hz1 : w.heap.size + 1 + 1 < w1.heap.size := by have := hb1.size; simp at this; omega
  have HB1 := Hid.mk' (bel_next (bel_three w _ _ _) hb1)
  have hS : L14 w.heap.size (w.heap.size + 1) w1.heap.size la lb m (w1.alloc (.cells #[.int .i64 m.x, .int .i64 m.y, .int .i64 m.d, .int .i64 m.e] 31)).drew := by
    have h4 := M4.box w1 31 m.x m.y m.d m.e
    have k1 : w.heap.size < w1.heap.size := by omega
    have k2 : w.heap.size + 1 < w1.heap.size := by omega
    refine ⟨(World.cell?_alloc_lt _ _ _ k1).trans (by go_simp), (World.cell?_alloc_lt _ _ _ k1).trans (by go_simp), (World.cell?_alloc_lt _ _ _ k1).trans (by go_simp), (World.cell?_alloc_lt _ _ _ k1).trans (by go_simp), (World.cell?_alloc_lt _ _ _ k1).trans (by go_simp), (World.cell?_alloc_lt _ _ _ k2).trans (by go_simp), (World.cell?_alloc_lt _ _ _ k2).trans (by go_simp), (World.cell?_alloc_lt _ _ _ k2).trans (by go_simp), (World.cell?_alloc_lt _ _ _ k2).trans (by go_simp), (World.cell?_alloc_lt _ _ _ k2).trans (by go_simp), h4.1, h4.2.1, h4.2.2.1, h4.2.2.2⟩
  have hZ : Z10 (w.heap.size + 1 + 1) (w1.alloc (.cells #[.int .i64 m.x, .int .i64 m.y, .int .i64 m.d, .int .i64 m.e] 31)).drew := by
    refine ⟨fun i hi => (World.cell?_alloc_lt _ _ _ hz1).trans ?_, fun i => ((bel_one w1 _).frozen (p := ⟨w.heap.size + 1 + 1, i, none⟩) hz1).trans (by go_simp)⟩
    have h10 : i = 0 ∨ i = 1 ∨ i = 2 ∨ i = 3 ∨ i = 4 ∨ i = 5 ∨ i = 6 ∨ i = 7 ∨ i = 8 ∨ i = 9 := by omega
    rcases h10 with rfl | rfl | rfl | rfl | rfl | rfl | rfl | rfl | rfl | rfl <;> go_simp
  have HZ := Hid.mk' hZ
  clear hm hb1 hc1 hf1 hZ
  have hz2 : w.heap.size + 1 < w1.heap.size := by omega
  have hz3 : w.heap.size < w1.heap.size := by omega
  have HB2 := Hid.mk' (HB1.out.alloc HB1.out.size (.cells #[.int .i64 m.x, .int .i64 m.y, .int .i64 m.d, .int .i64 m.e] 31))
  go_wp2_with fail
  go_region_held3 (fun u => u.cell? ⟨w.heap.size, 0, none⟩ = some (.int .i64 la.c) ∧ u.cell? ⟨w.heap.size, 1, none⟩ = some (.int .i64 la.m.x) ∧ u.cell? ⟨w.heap.size, 2, none⟩ = some (.int .i64 la.m.y) ∧ u.cell? ⟨w.heap.size, 3, none⟩ = some (.int .i64 la.m.d) ∧ u.cell? ⟨w.heap.size, 4, none⟩ = some (.int .i64 la.m.e) ∧ u.cell? ⟨w.heap.size + 1, 0, none⟩ = some (.int .i64 lb.c) ∧ u.cell? ⟨w.heap.size + 1, 1, none⟩ = some (.int .i64 lb.m.x) ∧ u.cell? ⟨w.heap.size + 1, 2, none⟩ = some (.int .i64 lb.m.y) ∧ u.cell? ⟨w.heap.size + 1, 3, none⟩ = some (.int .i64 lb.m.d) ∧ u.cell? ⟨w.heap.size + 1, 4, none⟩ = some (.int .i64 lb.m.e) ∧ u.cell? ⟨w1.heap.size, 0, none⟩ = some (.int .i64 m.x) ∧ u.cell? ⟨w1.heap.size, 1, none⟩ = some (.int .i64 m.y) ∧ u.cell? ⟨w1.heap.size, 2, none⟩ = some (.int .i64 m.d) ∧ u.cell? ⟨w1.heap.size, 3, none⟩ = some (.int .i64 m.e)) (first | with_reducible exact hS | with_reducible exact L14.below hS b1 | with_reducible exact L14.below (L14.below hS b1) b2 | with_reducible exact L14.set10 (L14.below (L14.below hS b1) b2) (by omega) (by omega) (by omega)) (first | (go_at_call_of 112 (Value.agg #[Value.int .i64 la.c, Value.int .i64 la.m.x, Value.int .i64 la.m.y, Value.int .i64 la.m.d, Value.int .i64 la.m.e]); refine (c1 _).mono ?_; rintro r w2 ⟨rfl, b1⟩) | (go_at_call_of 112 (Value.agg #[Value.int .i64 lb.c, Value.int .i64 lb.m.x, Value.int .i64 lb.m.y, Value.int .i64 lb.m.d, Value.int .i64 lb.m.e]); refine (c2 _).mono ?_; rintro r w3 ⟨rfl, b2⟩; have hZ3 := (HZ.out.below b1).below b2; have d0 := hZ3.1 0 (by omega); have d1 := hZ3.1 1 (by omega); have d2 := hZ3.1 2 (by omega); have d3 := hZ3.1 3 (by omega); have d4 := hZ3.1 4 (by omega); have d5 := hZ3.1 5 (by omega); have d6 := hZ3.1 6 (by omega); have d7 := hZ3.1 7 (by omega); have d8 := hZ3.1 8 (by omega); have d9 := hZ3.1 9 (by omega); have dz := hZ3.2; clear hZ3))
  have HB4 := Hid.mk' (bel_next (bel_next HB2.out.drew b1) b2)
  go_wp2
  refine bodyPost_ret (v := .agg #[.int .i64 U.c, .int .i64 U.m.x, .int .i64 U.m.y, .int .i64 U.m.d, .int .i64 U.m.e, .int .i64 V.c, .int .i64 V.m.x, .int .i64 V.m.y, .int .i64 V.m.d, .int .i64 V.m.e]) (by simp [results, Tryz.results79, go_sem, *]) rfl ⟨rfl, ?_⟩
  exact bel_s10 HB4.out (by omega) _ _ _ _ _ _ _ _ _ _
set_option maxRecDepth 100000 in
set_option maxHeartbeats 4000000 in
theorem sprTermsI (w : World) (o : Int) (a : Option Addr) (n ca : Nat) (f : Nat → T) (b : Option Addr) (m cb : Nat) (g : Nat → T) (ha : Rd w a n ca f) (hb : Rd w b m cb g) :
    Calls Tryz.prog 34 #[.int .i64 o, .slice a n ca, .slice b m cb] w fun r w' => r = .returned (.tuple #[.agg #[.int .i64 (sprU o n f m g).c, .int .i64 (sprU o n f m g).m.x, .int .i64 (sprU o n f m g).m.y, .int .i64 (sprU o n f m g).m.d, .int .i64 (sprU o n f m g).m.e], .agg #[.int .i64 (sprV o n f m g).c, .int .i64 (sprV o n f m g).m.x, .int .i64 (sprV o n f m g).m.y, .int .i64 (sprV o n f m g).m.d, .int .i64 (sprV o n f m g).m.e], .bool (sprOk o n f m g)]) ∧ Below w.heap.size w w' := by
  have HA := Hid.mk' ha
  have HB := Hid.mk' hb
  have hla : (n : Int) ≤ 140737488351232 := by have := ha.2.1; omega
  have hlb : (m : Int) ≤ 140737488351232 := by have := hb.2.1; omega
  have HB0 := Hid.mk' (bel_two w (.cells #[.int .i64 0, .int .i64 0, .int .i64 0, .int .i64 0, .int .i64 0] 33) (.cells #[.int .i64 0, .int .i64 0, .int .i64 0, .int .i64 0, .int .i64 0] 33))
  have c1 := fun (W : World) (h : Rd W a n ca f) => polLeadI W o a n ca f h
  have c2 := fun (W : World) (h : Rd W b m cb g) => polLeadI W o b m cb g h
  clear ha hb
  unfold sprU sprV sprB sprOk
  generalize leadT o n f = s at *
  generalize leadT o m g = t at *
  generalize leadOk o n f = k1 at *
  generalize leadOk o m g = k2 at *
  by_cases hk : (k1 && k2) = true
  · rw [if_pos hk, if_pos hk, hk]
    rw [Bool.and_eq_true] at hk
    obtain ⟨rfl, rfl⟩ := hk
    have hof := fun W => sprOfI W s t
    generalize sprT s (M.both s.m t.m) = U at *
    generalize sprT t (M.both s.m t.m) = V at *
    go_enter Tryz.func34, Tryz.ntmps34
    go_wp2_with fail
    refine (c1 _ (HA.out.below HB0.out)).mono ?_
    rintro r w1 ⟨rfl, hb1⟩
    have HB1 := Hid.mk' (bel_next HB0.out hb1)
    have hz1 : w.heap.size + 1 < w1.heap.size := by have := hb1.size; simp at this; omega
    have oA := ((Own5.box w 33 zeroT).below (bel_one (w.alloc (.cells #[.int .i64 0, .int .i64 0, .int .i64 0, .int .i64 0, .int .i64 0] 33)) (.cells #[.int .i64 0, .int .i64 0, .int .i64 0, .int .i64 0, .int .i64 0] 33))).below hb1
    have oB := (Own5.box (w.alloc (.cells #[.int .i64 0, .int .i64 0, .int .i64 0, .int .i64 0, .int .i64 0] 33)) 33 zeroT).below hb1
    rw [World.size_alloc] at oB
    have OA := Hid.mk' oA
    have OB := Hid.mk' oB
    have HB2 := Hid.mk' (HB1.out.alloc HB1.out.size (.cells #[.int .i64 s.c, .int .i64 s.m.x, .int .i64 s.m.y, .int .i64 s.m.d, .int .i64 s.m.e] 33))
    clear hb1 oA oB
    go_wp2_with fail
    refine (c2 _ (HB.out.below HB2.out)).mono ?_
    rintro r w2 ⟨rfl, hb2⟩
    have HB3 := Hid.mk' (bel_next HB2.out hb2)
    have oA2 := (OA.out.below (bel_one w1 (.cells #[.int .i64 s.c, .int .i64 s.m.x, .int .i64 s.m.y, .int .i64 s.m.d, .int .i64 s.m.e] 33))).below hb2
    have oB2 := (OB.out.below (bel_one w1 (.cells #[.int .i64 s.c, .int .i64 s.m.x, .int .i64 s.m.y, .int .i64 s.m.d, .int .i64 s.m.e] 33))).below hb2
    have cS := (C5.box w1 33 s).below hb2
    have hz2 : w1.heap.size < w2.heap.size := by have := hb2.size; simp at this; omega
    have hz3 : w.heap.size < w2.heap.size := by omega
    have hz4 : w.heap.size + 1 < w2.heap.size := by omega
    have OA2 := Hid.mk' oA2
    have OB2 := Hid.mk' oB2
    have CSS := Hid.mk' cS
    clear hb2 oA2 oB2 cS c1 c2 OA OB
    obtain ⟨r0, r1, r2, r3, r4⟩ := CSS.out
    go_wp2_with fail
    clear r0 r1 r2 r3 r4
    refine (hof _).mono ?_
    rintro r w3 ⟨rfl, hb3⟩
    have HB4 := Hid.mk' (bel_next (HB3.out.alloc HB3.out.size _) hb3)
    obtain ⟨⟨e0, e1, e2, e3, e4⟩, ez⟩ := (OA2.out.below (bel_one w2 _)).below hb3
    obtain ⟨⟨g0, g1, g2, g3, g4⟩, gz⟩ := (OB2.out.below (bel_one w2 _)).below hb3
    have hz5 : w.heap.size < w3.heap.size := by have := hb3.size; simp at this; omega
    have hz6 : w.heap.size + 1 < w3.heap.size := by have := hb3.size; simp at this; omega
    clear hb3 hof OA2 OB2 CSS HB1 HB2 HB3 HB0 HA HB
    go_wp2_with fail
    go_region_with (fail)
    all_goals
     go_wp2
     refine bodyPost_ret (v := .tuple #[.agg #[.int .i64 U.c, .int .i64 U.m.x, .int .i64 U.m.y, .int .i64 U.m.d, .int .i64 U.m.e], .agg #[.int .i64 V.c, .int .i64 V.m.x, .int .i64 V.m.y, .int .i64 V.m.d, .int .i64 V.m.e], .bool true]) (by simp [results, Tryz.results34, go_sem, *]) rfl ⟨rfl, ?_⟩
     exact (bel_s55 HB4.out (by omega) (by omega) _ _ _ _ _ _ _ _ _ _).drew
  · have hk' : (k1 && k2) = false := by cases h : (k1 && k2); rfl; exact absurd h hk
    rw [if_neg hk, if_neg hk, hk']
    go_enter Tryz.func34, Tryz.ntmps34
    go_wp2_with fail
    refine (c1 _ (HA.out.below HB0.out)).mono ?_
    rintro r w1 ⟨rfl, hb1⟩
    have HB1 := Hid.mk' (bel_next HB0.out hb1)
    have hz1 : w.heap.size + 1 < w1.heap.size := by have := hb1.size; simp at this; omega
    have oA := ((Own5.box w 33 zeroT).below (bel_one (w.alloc (.cells #[.int .i64 0, .int .i64 0, .int .i64 0, .int .i64 0, .int .i64 0] 33)) (.cells #[.int .i64 0, .int .i64 0, .int .i64 0, .int .i64 0, .int .i64 0] 33))).below hb1
    have oB := (Own5.box (w.alloc (.cells #[.int .i64 0, .int .i64 0, .int .i64 0, .int .i64 0, .int .i64 0] 33)) 33 zeroT).below hb1
    rw [World.size_alloc] at oB
    have OA := Hid.mk' oA
    have OB := Hid.mk' oB
    have HB2 := Hid.mk' (HB1.out.alloc HB1.out.size (.cells #[.int .i64 s.c, .int .i64 s.m.x, .int .i64 s.m.y, .int .i64 s.m.d, .int .i64 s.m.e] 33))
    clear hb1 oA oB
    go_wp2_with fail
    refine (c2 _ (HB.out.below HB2.out)).mono ?_
    rintro r w2 ⟨rfl, hb2⟩
    have HB3 := Hid.mk' (bel_next HB2.out hb2)
    have oA2 := (OA.out.below (bel_one w1 (.cells #[.int .i64 s.c, .int .i64 s.m.x, .int .i64 s.m.y, .int .i64 s.m.d, .int .i64 s.m.e] 33))).below hb2
    have oB2 := (OB.out.below (bel_one w1 (.cells #[.int .i64 s.c, .int .i64 s.m.x, .int .i64 s.m.y, .int .i64 s.m.d, .int .i64 s.m.e] 33))).below hb2
    have cS := (C5.box w1 33 s).below hb2
    have hz2 : w1.heap.size < w2.heap.size := by have := hb2.size; simp at this; omega
    have hz3 : w.heap.size < w2.heap.size := by omega
    have hz4 : w.heap.size + 1 < w2.heap.size := by omega
    have OA2 := Hid.mk' oA2
    have OB2 := Hid.mk' oB2
    have CSS := Hid.mk' cS
    clear hb2 oA2 oB2 cS c1 c2 OA OB
    obtain ⟨⟨e0, e1, e2, e3, e4⟩, ez⟩ := OA2.out
    obtain ⟨⟨g0, g1, g2, g3, g4⟩, gz⟩ := OB2.out
    cases k1
    · go_wp2
      refine bodyPost_ret (v := .tuple #[.agg #[.int .i64 0, .int .i64 0, .int .i64 0, .int .i64 0, .int .i64 0], .agg #[.int .i64 0, .int .i64 0, .int .i64 0, .int .i64 0, .int .i64 0], .bool false]) (by simp [results, Tryz.results34, go_sem, *]) rfl ⟨rfl, ?_⟩
      exact bel_s55 HB3.out (by omega) (by omega) _ _ _ _ _ _ _ _ _ _
    · cases k2
      · go_wp2
        refine bodyPost_ret (v := .tuple #[.agg #[.int .i64 0, .int .i64 0, .int .i64 0, .int .i64 0, .int .i64 0], .agg #[.int .i64 0, .int .i64 0, .int .i64 0, .int .i64 0, .int .i64 0], .bool false]) (by simp [results, Tryz.results34, go_sem, *]) rfl ⟨rfl, ?_⟩
        exact bel_s55 HB3.out (by omega) (by omega) _ _ _ _ _ _ _ _ _ _
      · exact absurd rfl hk
end Go.Proofs.YtbicmmbajknceaaGreat
