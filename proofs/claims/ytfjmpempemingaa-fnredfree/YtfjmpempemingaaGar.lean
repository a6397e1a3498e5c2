/-
  The two terms of a pair of operators: the program and the model.
  The two terms of a pair of operators: the model.
  The two terms of a pair of operators: what is true of them.
-/
import Derived.Test.YtfjmpempemingaaGak
import Derived.Test.YtfjmpempemingaaGai
import Derived.Deep.RegionHeld3
import Derived.Deep.Light
import Derived.Test.YtfjmpempemingaaGah
namespace Go.Proofs.Ytfjmpempemingaa
open Go.RowKit Go.Deep Go.Joins
set_option linter.unusedVariables false

/-- the term that, times a greatest term, is 1 times a monomial. -/
def sprT (l : T) (b : M) : T := ⟨fInv l.c, (M.over b l.m).1⟩
def sprOk (o : Int) (n : Nat) (f : Nat → T) (m : Nat) (g : Nat → T) : Bool := leadOk o n f && leadOk o m g
def sprB (o : Int) (n : Nat) (f : Nat → T) (m : Nat) (g : Nat → T) : M := M.both (leadT o n f).m (leadT o m g).m
def sprU (o : Int) (n : Nat) (f : Nat → T) (m : Nat) (g : Nat → T) : T := if sprOk o n f m g = true then sprT (leadT o n f) (sprB o n f m g) else zeroT
def sprV (o : Int) (n : Nat) (f : Nat → T) (m : Nat) (g : Nat → T) : T := if sprOk o n f m g = true then sprT (leadT o m g) (sprB o n f m g) else zeroT
theorem L5.set5 {b o B : Nat} {v : Value} {m : M} {u : World} {D : Nat} {v0 v1 v2 v3 v4 : Value} (h : L5 b o B v m u) (h1 : b ≠ D) (h2 : B ≠ D) : L5 b o B v m (((((u.setCell ⟨D, 0, none⟩ v0).setCell ⟨D, 1, none⟩ v1).setCell ⟨D, 2, none⟩ v2).setCell ⟨D, 3, none⟩ v3).setCell ⟨D, 4, none⟩ v4) :=
  ⟨(far5 h1).trans h.1, (far5 h2).trans h.2.1, (far5 h2).trans h.2.2.1, (far5 h2).trans h.2.2.2.1, (far5 h2).trans h.2.2.2.2⟩
theorem bel_s5a {B : Nat} {a w : World} {O : Obj} (h : Below a.heap.size a w) (hB : a.heap.size ≤ B) (u0 u1 u2 u3 u4 : Value) : Below a.heap.size a ((((((w.setCell ⟨B, 0, none⟩ u0).setCell ⟨B, 1, none⟩ u1).setCell ⟨B, 2, none⟩ u2).setCell ⟨B, 3, none⟩ u3).setCell ⟨B, 4, none⟩ u4).alloc O).drew :=
  have k := bel_s5 h hB u0 u1 u2 u3 u4
  (k.alloc k.size O).drew
/-- two terms and a monomial in boxes. -/
abbrev L14 (A B C : Nat) (s t : T) (m : M) (u : World) : Prop := u.cell? ⟨A, 0, none⟩ = some (.int .i64 s.c) ∧ u.cell? ⟨A, 1, none⟩ = some (.int .i64 s.m.x) ∧ u.cell? ⟨A, 2, none⟩ = some (.int .i64 s.m.y) ∧ u.cell? ⟨A, 3, none⟩ = some (.int .i64 s.m.d) ∧ u.cell? ⟨A, 4, none⟩ = some (.int .i64 s.m.e) ∧ u.cell? ⟨B, 0, none⟩ = some (.int .i64 t.c) ∧ u.cell? ⟨B, 1, none⟩ = some (.int .i64 t.m.x) ∧ u.cell? ⟨B, 2, none⟩ = some (.int .i64 t.m.y) ∧ u.cell? ⟨B, 3, none⟩ = some (.int .i64 t.m.d) ∧ u.cell? ⟨B, 4, none⟩ = some (.int .i64 t.m.e) ∧ u.cell? ⟨C, 0, none⟩ = some (.int .i64 m.x) ∧ u.cell? ⟨C, 1, none⟩ = some (.int .i64 m.y) ∧ u.cell? ⟨C, 2, none⟩ = some (.int .i64 m.d) ∧ u.cell? ⟨C, 3, none⟩ = some (.int .i64 m.e)
theorem L14.below {A B C : Nat} {s t : T} {m : M} {u u' : World} (h : L14 A B C s t m u) (hb : Below u.heap.size u u') : L14 A B C s t m u' :=
  have l1 := World.block_lt_of_cell? u ⟨A, 0, none⟩ h.1
  have l2 := World.block_lt_of_cell? u ⟨B, 0, none⟩ h.2.2.2.2.2.1
  have l3 := World.block_lt_of_cell? u ⟨C, 0, none⟩ h.2.2.2.2.2.2.2.2.2.2.1
  ⟨(hb.cell (p := ⟨A, 0, none⟩) l1).trans h.1, (hb.cell (p := ⟨A, 1, none⟩) l1).trans h.2.1, (hb.cell (p := ⟨A, 2, none⟩) l1).trans h.2.2.1, (hb.cell (p := ⟨A, 3, none⟩) l1).trans h.2.2.2.1, (hb.cell (p := ⟨A, 4, none⟩) l1).trans h.2.2.2.2.1, (hb.cell (p := ⟨B, 0, none⟩) l2).trans h.2.2.2.2.2.1, (hb.cell (p := ⟨B, 1, none⟩) l2).trans h.2.2.2.2.2.2.1, (hb.cell (p := ⟨B, 2, none⟩) l2).trans h.2.2.2.2.2.2.2.1, (hb.cell (p := ⟨B, 3, none⟩) l2).trans h.2.2.2.2.2.2.2.2.1, (hb.cell (p := ⟨B, 4, none⟩) l2).trans h.2.2.2.2.2.2.2.2.2.1, (hb.cell (p := ⟨C, 0, none⟩) l3).trans h.2.2.2.2.2.2.2.2.2.2.1, (hb.cell (p := ⟨C, 1, none⟩) l3).trans h.2.2.2.2.2.2.2.2.2.2.2.1, (hb.cell (p := ⟨C, 2, none⟩) l3).trans h.2.2.2.2.2.2.2.2.2.2.2.2.1, (hb.cell (p := ⟨C, 3, none⟩) l3).trans h.2.2.2.2.2.2.2.2.2.2.2.2.2⟩
theorem far10 {w : World} {B b o : Nat} {v0 v1 v2 v3 v4 v5 v6 v7 v8 v9 : Value} (h : b ≠ B) : ((((((((((w.setCell ⟨B, 0, none⟩ v0).setCell ⟨B, 1, none⟩ v1).setCell ⟨B, 2, none⟩ v2).setCell ⟨B, 3, none⟩ v3).setCell ⟨B, 4, none⟩ v4).setCell ⟨B, 5, none⟩ v5).setCell ⟨B, 6, none⟩ v6).setCell ⟨B, 7, none⟩ v7).setCell ⟨B, 8, none⟩ v8).setCell ⟨B, 9, none⟩ v9).cell? ⟨b, o, none⟩ = w.cell? ⟨b, o, none⟩ := by
  refine World.cell?_of_block ?_
  rw [Below.heap_setCell _ _ _ _ h, Below.heap_setCell _ _ _ _ h, Below.heap_setCell _ _ _ _ h, Below.heap_setCell _ _ _ _ h, Below.heap_setCell _ _ _ _ h, Below.heap_setCell _ _ _ _ h, Below.heap_setCell _ _ _ _ h, Below.heap_setCell _ _ _ _ h, Below.heap_setCell _ _ _ _ h, Below.heap_setCell _ _ _ _ h]
/-- a block of ten noughts that may be written. -/
def Z10 (D : Nat) (u : World) : Prop := (∀ i, i < 10 → u.cell? ⟨D, i, none⟩ = some (.int .i64 0)) ∧ ∀ i, u.frozen? ⟨D, i, none⟩ = false
theorem Z10.below {D : Nat} {u u' : World} (h : Z10 D u) (hb : Below u.heap.size u u') : Z10 D u' :=
  have l := World.block_lt_of_cell? u ⟨D, 0, none⟩ (h.1 0 (by omega))
  ⟨fun i hi => (hb.cell (p := ⟨D, i, none⟩) l).trans (h.1 i hi), fun i => (hb.frozen (p := ⟨D, i, none⟩) l).trans (h.2 i)⟩
theorem L14.set10 {A B C : Nat} {s t : T} {m : M} {u : World} {D : Nat} {v0 v1 v2 v3 v4 v5 v6 v7 v8 v9 : Value} (h : L14 A B C s t m u) (h1 : A ≠ D) (h2 : B ≠ D) (h3 : C ≠ D) : L14 A B C s t m ((((((((((u.setCell ⟨D, 0, none⟩ v0).setCell ⟨D, 1, none⟩ v1).setCell ⟨D, 2, none⟩ v2).setCell ⟨D, 3, none⟩ v3).setCell ⟨D, 4, none⟩ v4).setCell ⟨D, 5, none⟩ v5).setCell ⟨D, 6, none⟩ v6).setCell ⟨D, 7, none⟩ v7).setCell ⟨D, 8, none⟩ v8).setCell ⟨D, 9, none⟩ v9) :=
  ⟨(far10 h1).trans h.1, (far10 h1).trans h.2.1, (far10 h1).trans h.2.2.1, (far10 h1).trans h.2.2.2.1, (far10 h1).trans h.2.2.2.2.1, (far10 h2).trans h.2.2.2.2.2.1, (far10 h2).trans h.2.2.2.2.2.2.1, (far10 h2).trans h.2.2.2.2.2.2.2.1, (far10 h2).trans h.2.2.2.2.2.2.2.2.1, (far10 h2).trans h.2.2.2.2.2.2.2.2.2.1, (far10 h3).trans h.2.2.2.2.2.2.2.2.2.2.1, (far10 h3).trans h.2.2.2.2.2.2.2.2.2.2.2.1, (far10 h3).trans h.2.2.2.2.2.2.2.2.2.2.2.2.1, (far10 h3).trans h.2.2.2.2.2.2.2.2.2.2.2.2.2⟩
theorem bel_s10 {n B : Nat} {a w : World} (h : Below n a w) (hB : n ≤ B) (v0 v1 v2 v3 v4 v5 v6 v7 v8 v9 : Value) : Below n a ((((((((((w.setCell ⟨B, 0, none⟩ v0).setCell ⟨B, 1, none⟩ v1).setCell ⟨B, 2, none⟩ v2).setCell ⟨B, 3, none⟩ v3).setCell ⟨B, 4, none⟩ v4).setCell ⟨B, 5, none⟩ v5).setCell ⟨B, 6, none⟩ v6).setCell ⟨B, 7, none⟩ v7).setCell ⟨B, 8, none⟩ v8).setCell ⟨B, 9, none⟩ v9) :=
  (((((((((h.setCell hB v0).setCell hB v1).setCell hB v2).setCell hB v3).setCell hB v4).setCell hB v5).setCell hB v6).setCell hB v7).setCell hB v8).setCell hB v9
theorem bel_s55 {B B' : Nat} {a w : World} {O : Obj} (h : Below a.heap.size a w) (hB : a.heap.size ≤ B) (hB' : a.heap.size ≤ B') (u0 u1 u2 u3 u4 u5 u6 u7 u8 u9 : Value) : Below a.heap.size a (((((((((((w.setCell ⟨B, 0, none⟩ u0).setCell ⟨B, 1, none⟩ u1).setCell ⟨B, 2, none⟩ u2).setCell ⟨B, 3, none⟩ u3).setCell ⟨B, 4, none⟩ u4).setCell ⟨B', 0, none⟩ u5).setCell ⟨B', 1, none⟩ u6).setCell ⟨B', 2, none⟩ u7).setCell ⟨B', 3, none⟩ u8).setCell ⟨B', 4, none⟩ u9).alloc O) :=
  have k := bel_s5 (bel_s5 h hB u0 u1 u2 u3 u4) hB' u5 u6 u7 u8 u9
  k.alloc k.size O
end Go.Proofs.Ytfjmpempemingaa
namespace Go.Proofs.Ytfjmpempemingaa
open Go.RowKit Go.Deep Go.Joins
set_option linter.unusedVariables false

abbrev L6 (A B C : Nat) (x y : Int) (m : M) (u : World) : Prop := u.cell? ⟨A, 0, none⟩ = some (.int .i64 x) ∧ u.cell? ⟨B, 0, none⟩ = some (.int .i64 y) ∧ u.cell? ⟨C, 0, none⟩ = some (.int .i64 m.x) ∧ u.cell? ⟨C, 1, none⟩ = some (.int .i64 m.y) ∧ u.cell? ⟨C, 2, none⟩ = some (.int .i64 m.d) ∧ u.cell? ⟨C, 3, none⟩ = some (.int .i64 m.e)
theorem L6.set5d {A B C D : Nat} {x y : Int} {m : M} {u : World} {v0 v1 v2 v3 v4 : Value} (h : L6 A B C x y m u) (h1 : A ≠ D) (h2 : B ≠ D) (h3 : C ≠ D) : L6 A B C x y m (((((u.setCell ⟨D, 0, none⟩ v0).setCell ⟨D, 1, none⟩ v1).setCell ⟨D, 2, none⟩ v2).setCell ⟨D, 3, none⟩ v3).setCell ⟨D, 4, none⟩ v4).drew :=
  have key : ∀ v : World, L6 A B C x y m v → L6 A B C x y m v.drew := fun v h => h
  key _ ⟨(far5 h1).trans h.1, (far5 h2).trans h.2.1, (far5 h3).trans h.2.2.1, (far5 h3).trans h.2.2.2.1, (far5 h3).trans h.2.2.2.2.1, (far5 h3).trans h.2.2.2.2.2⟩
abbrev Q5 (B : Nat) (q : M) (u : World) : Prop := u.cell? ⟨B, 0, none⟩ = some (.int .i64 1) ∧ u.cell? ⟨B, 1, none⟩ = some (.int .i64 q.x) ∧ u.cell? ⟨B, 2, none⟩ = some (.int .i64 q.y) ∧ u.cell? ⟨B, 3, none⟩ = some (.int .i64 q.d) ∧ u.cell? ⟨B, 4, none⟩ = some (.int .i64 q.e)
theorem Q5.below {B : Nat} {q : M} {u u' : World} (h : Q5 B q u) (hb : Below u.heap.size u u') : Q5 B q u' :=
  have l := World.block_lt_of_cell? u ⟨B, 0, none⟩ h.1
  ⟨(hb.cell (p := ⟨B, 0, none⟩) l).trans h.1, (hb.cell (p := ⟨B, 1, none⟩) l).trans h.2.1, (hb.cell (p := ⟨B, 2, none⟩) l).trans h.2.2.1, (hb.cell (p := ⟨B, 3, none⟩) l).trans h.2.2.2.1, (hb.cell (p := ⟨B, 4, none⟩) l).trans h.2.2.2.2⟩
theorem Q5.far {w : World} {B b : Nat} {q : M} {v0 v1 v2 v3 v4 : Value} (m : Q5 b q w) (h : b ≠ B) : Q5 b q (((((w.setCell ⟨B, 0, none⟩ v0).setCell ⟨B, 1, none⟩ v1).setCell ⟨B, 2, none⟩ v2).setCell ⟨B, 3, none⟩ v3).setCell ⟨B, 4, none⟩ v4) :=
  ⟨(far5 h).trans m.1, (far5 h).trans m.2.1, (far5 h).trans m.2.2.1, (far5 h).trans m.2.2.2.1, (far5 h).trans m.2.2.2.2⟩
/-- the term that, times an operator, has a term as its greatest one. -/
def overT (t l : T) : T := ⟨t.c * fInv l.c % 101, (M.over t.m l.m).1⟩
set_option maxRecDepth 100000 in
set_option maxHeartbeats 4000000 in
theorem l7OverS (w : World) (o : Int) (t : T) (b : Option Addr) (m cb : Nat) (g : Nat → T) (hb : Rd w b m cb g) (hm : 0 < m) (hg : ∀ i, i < m → (g i).m.ok = true) (t1 : 0 ≤ t.c) (t2 : t.c ≤ 100) :
    Calls Try.prog 69 #[.int .i64 o, .agg #[.int .i64 t.c, .int .i64 t.m.x, .int .i64 t.m.y, .int .i64 t.m.d, .int .i64 t.m.e], .slice b m cb] w fun r w' => r = .returned (.agg #[.int .i64 (overT t (g (leadAt o g m))).c, .int .i64 (overT t (g (leadAt o g m))).m.x, .int .i64 (overT t (g (leadAt o g m))).m.y, .int .i64 (overT t (g (leadAt o g m))).m.d, .int .i64 (overT t (g (leadAt o g m))).m.e]) ∧ Below w.heap.size w w' := by
  have hmb : (m : Int) ≤ 140737488351232 := by have := hb.2.1; omega
  have HG := Hid.mk' hb
  have HM := Hid.mk' hg
  have HB0 := Hid.mk' (bel_two w (.cells #[.int .i64 t.c, .int .i64 t.m.x, .int .i64 t.m.y, .int .i64 t.m.d, .int .i64 t.m.e] 34) (.cells #[.int .i64 0, .int .i64 0, .int .i64 0, .int .i64 0, .int .i64 0] 34))
  have c1 := fun (W : World) (h : Rd W b m cb g) => l3LeadS W o b m cb g h hm HM.out
  clear hb hg
  generalize g (leadAt o g m) = l at *
  obtain ⟨q, bv, hq⟩ : ∃ q bv, M.over ⟨t.m.x, t.m.y, t.m.d, t.m.e⟩ ⟨l.m.x, l.m.y, l.m.d, l.m.e⟩ = (q, bv) := ⟨_, _, rfl⟩
  have e1 : overT t l = ⟨t.c * fInv l.c % 101, q⟩ := by unfold overT; rw [show M.over t.m l.m = (q, bv) from hq]
  rw [e1]
  clear e1
  obtain ⟨f1, f2⟩ := fInv_bd l.c
  obtain ⟨y, hy⟩ : ∃ y, fInv l.c = y := ⟨_, rfl⟩
  have c3 := fun W => invS l.c W
  rw [hy] at f1 f2 c3 ⊢
  clear hy
  have p1 : 0 ≤ t.c * y := Int.mul_nonneg t1 f1
  have p2 : t.c * y ≤ 10000 := by
    have h1 : t.c * y ≤ 100 * y := Int.mul_le_mul_of_nonneg_right t2 f1
    omega
  have p3 : IntKind.i64.wrap (t.c * y) = t.c * y := by rw [IntKind.wrap_i64]; omega
  have p4 : (t.c * y).tmod 101 = t.c * y % 101 := Int.tmod_eq_emod_of_nonneg p1
  go_enter Try.func69, Try.ntmps69
  go_wp2_with fail
  refine (c1 _ (HG.out.below HB0.out)).mono ?_
  rintro r w1 ⟨rfl, hb1⟩
  have HB1 := Hid.mk' (bel_next HB0.out hb1)
  have oA := ((C5.box w 34 t).below (bel_one (w.alloc (.cells #[.int .i64 t.c, .int .i64 t.m.x, .int .i64 t.m.y, .int .i64 t.m.d, .int .i64 t.m.e] 34)) (.cells #[.int .i64 0, .int .i64 0, .int .i64 0, .int .i64 0, .int .i64 0] 34))).below hb1
  have oB := (Own5.box (w.alloc (.cells #[.int .i64 t.c, .int .i64 t.m.x, .int .i64 t.m.y, .int .i64 t.m.d, .int .i64 t.m.e] 34)) 34 zeroT).below hb1
  rw [World.size_alloc] at oB
  have hz1 : w.heap.size + 1 < w1.heap.size := by have := hb1.size; simp at this; omega
  have OA := Hid.mk' oA
  have OB := Hid.mk' oB
  have HB2 := Hid.mk' (HB1.out.alloc HB1.out.size (.cells #[.int .i64 l.c, .int .i64 l.m.x, .int .i64 l.m.y, .int .i64 l.m.d, .int .i64 l.m.e] 34))
  obtain ⟨r0, r1, r2, r3, r4⟩ := oA
  clear hb1 c1 oB
  have hz0 : w.heap.size < w1.heap.size := by omega
  go_wp2_with fail
  clear r0 r1 r2 r3 r4
  refine (monOverS_of hq _).mono ?_
  rintro r w2 ⟨rfl, hb2⟩
  have HB3 := Hid.mk' (bel_next HB2.out hb2)
  have oA2 := (OA.out.below (bel_one w1 (.cells #[.int .i64 l.c, .int .i64 l.m.x, .int .i64 l.m.y, .int .i64 l.m.d, .int .i64 l.m.e] 34))).below hb2
  obtain ⟨⟨e0, e1, e2, e3, e4⟩, ez⟩ := (OB.out.below (bel_one w1 (.cells #[.int .i64 l.c, .int .i64 l.m.x, .int .i64 l.m.y, .int .i64 l.m.d, .int .i64 l.m.e] 34))).below hb2
  have oL := (C5.box w1 34 l).below hb2
  have hz2 : w1.heap.size < w2.heap.size := by have := hb2.size; simp at this; omega
  have hz3 : w.heap.size + 1 < w2.heap.size := by omega
  have hz4 : w.heap.size < w2.heap.size := by omega
  have k0 : w2.cell? ⟨w.heap.size, 0, none⟩ = some (.int .i64 t.c) := oA2.1
  have k1 : w2.cell? ⟨w1.heap.size, 0, none⟩ = some (.int .i64 l.c) := oL.1
  have HB4 := Hid.mk' (HB3.out.alloc HB3.out.size (.cells #[.int .i64 q.x, .int .i64 q.y, .int .i64 q.d, .int .i64 q.e] 32))
  have hS : L6 w.heap.size w1.heap.size w2.heap.size t.c l.c q (w2.alloc (.cells #[.int .i64 q.x, .int .i64 q.y, .int .i64 q.d, .int .i64 q.e] 32)) := by
    have h4 := M4.box w2 32 q.x q.y q.d q.e
    exact ⟨(World.cell?_alloc_lt _ _ _ hz4).trans k0, (World.cell?_alloc_lt _ _ _ hz2).trans k1, h4.1, h4.2.1, h4.2.2.1, h4.2.2.2⟩
  have s0 := (World.cell?_alloc_lt w2 (.cells #[.int .i64 q.x, .int .i64 q.y, .int .i64 q.d, .int .i64 q.e] 32) ⟨w.heap.size + 1, 0, none⟩ hz3).trans e0
  have s1 := (World.cell?_alloc_lt w2 (.cells #[.int .i64 q.x, .int .i64 q.y, .int .i64 q.d, .int .i64 q.e] 32) ⟨w.heap.size + 1, 1, none⟩ hz3).trans e1
  have s2 := (World.cell?_alloc_lt w2 (.cells #[.int .i64 q.x, .int .i64 q.y, .int .i64 q.d, .int .i64 q.e] 32) ⟨w.heap.size + 1, 2, none⟩ hz3).trans e2
  have s3 := (World.cell?_alloc_lt w2 (.cells #[.int .i64 q.x, .int .i64 q.y, .int .i64 q.d, .int .i64 q.e] 32) ⟨w.heap.size + 1, 3, none⟩ hz3).trans e3
  have s4 := (World.cell?_alloc_lt w2 (.cells #[.int .i64 q.x, .int .i64 q.y, .int .i64 q.d, .int .i64 q.e] 32) ⟨w.heap.size + 1, 4, none⟩ hz3).trans e4
  have sz := fun i => ((bel_one w2 (.cells #[.int .i64 q.x, .int .i64 q.y, .int .i64 q.d, .int .i64 q.e] 32)).frozen (p := ⟨w.heap.size + 1, i, none⟩) hz3).trans (ez i)
  clear hb2 oA2 oL OA OB hq
  go_wp2_with fail
  clear e0 e1 e2 e3 e4 ez
  generalize (w2.alloc (.cells #[.int .i64 q.x, .int .i64 q.y, .int .i64 q.d, .int .i64 q.e] 32)) = W at *
  have hSd : L6 w.heap.size w1.heap.size w2.heap.size t.c l.c q W.drew := hS
  have hn1 : w.heap.size ≠ w.heap.size + 1 := by omega
  have hn2 : w1.heap.size ≠ w.heap.size + 1 := by omega
  have hn3 : w2.heap.size ≠ w.heap.size + 1 := by omega
  go_region_held3 (fun u => u.cell? ⟨w.heap.size, 0, none⟩ = some (.int .i64 t.c) ∧ u.cell? ⟨w1.heap.size, 0, none⟩ = some (.int .i64 l.c) ∧ u.cell? ⟨w2.heap.size, 0, none⟩ = some (.int .i64 q.x) ∧ u.cell? ⟨w2.heap.size, 1, none⟩ = some (.int .i64 q.y) ∧ u.cell? ⟨w2.heap.size, 2, none⟩ = some (.int .i64 q.d) ∧ u.cell? ⟨w2.heap.size, 3, none⟩ = some (.int .i64 q.e)) (first | with_reducible exact hSd | with_reducible exact L6.set5d hS hn1 hn2 hn3) (first | (go_at_call 87; refine (c3 _).mono ?_; rintro r w7 ⟨rfl, hw7⟩; obtain rfl := hw7.symm; clear hw7))
  go_wp2
  refine bodyPost_ret (v := .agg #[.int .i64 (t.c * y % 101), .int .i64 q.x, .int .i64 q.y, .int .i64 q.d, .int .i64 q.e]) (by simp [results, Try.results69, go_sem, *]) rfl ⟨rfl, ?_⟩
  exact (bel_s5 HB4.out (by omega) _ _ _ _ _).drew
end Go.Proofs.Ytfjmpempemingaa
namespace Go.Proofs.Ytfjmpempemingaa
open Go.RowKit Go.Deep Go.Joins
set_option linter.unusedVariables false

theorem leadFrom_lt {o : Int} {f : Nat → T} : ∀ u i k n, k < n → i + u ≤ n → leadFrom o f u i k < n
  | 0, _, _, _, h, _ => h
  | u + 1, i, k, n, h, h2 => by
    unfold leadFrom
    split
    · exact leadFrom_lt u (i + 1) i n (by omega) (by omega)
    · exact leadFrom_lt u (i + 1) k n h (by omega)
theorem leadAt_lt {o : Int} {f : Nat → T} {n : Nat} (h : 0 < n) : leadAt o f n < n := leadFrom_lt (n - 1) 1 0 n h (by omega)
theorem leadOk_parts {o : Int} {n : Nat} {f : Nat → T} (h : leadOk o n f = true) : (1 ≤ o ∧ o ≤ 3) ∧ polOk n f = true ∧ 0 < n := by
  unfold leadOk at h
  simp only [Bool.and_eq_true, decide_eq_true_eq] at h
  exact ⟨h.1.1, h.1.2, h.2⟩
theorem lead_good {o : Int} {n : Nat} {f : Nat → T} (h : leadOk o n f = true) : (leadT o n f).m.ok = true ∧ 1 ≤ (leadT o n f).c ∧ (leadT o n f).c ≤ 100 := by
  obtain ⟨ho, hp, hn⟩ := leadOk_parts h
  rw [leadT_yes h]
  exact (fl_of_ok hp).2 _ (leadAt_lt hn)
theorem fInv_pos {c : Int} (h1 : 1 ≤ c) (h2 : c ≤ 100) : 1 ≤ fInv c := by
  have hb := fInv_bd c
  rcases Int.lt_or_le 0 (fInv c) with h | h
  · omega
  · have h0 : fInv c = 0 := by omega
    have := fMul_inv (b := c) ⟨by omega, h2⟩ (by omega)
    rw [h0, fMul_in (by omega) (by omega) (by omega) h2] at this
    omega
theorem sprT_good {l : T} {b : M} (h : l.m.ok = true ∧ 1 ≤ l.c ∧ l.c ≤ 100) (hd : l.m.dvd b = true) : (sprT l b).m.ok = true ∧ 1 ≤ (sprT l b).c ∧ (sprT l b).c ≤ 100 := by
  refine ⟨?_, fInv_pos h.2.1 h.2.2, (fInv_bd _).2⟩
  show ((M.over b l.m).1).ok = true
  rw [M.over, if_pos hd]
  obtain ⟨h1, h2, h3⟩ := M.dvd_iff hd
  have k1 := M.ok_iff.1 h1
  have k2 := M.ok_iff.1 h2
  refine M.ok_iff.2 ?_
  simp only [M.diff]
  omega
theorem spr_good {o : Int} {n : Nat} {f : Nat → T} {m : Nat} {g : Nat → T} (h : sprOk o n f m g = true) :
    ((sprU o n f m g).m.ok = true ∧ 1 ≤ (sprU o n f m g).c ∧ (sprU o n f m g).c ≤ 100) ∧ ((sprV o n f m g).m.ok = true ∧ 1 ≤ (sprV o n f m g).c ∧ (sprV o n f m g).c ≤ 100) := by
  have h' := h
  unfold sprOk at h'
  rw [Bool.and_eq_true] at h'
  have ga := lead_good h'.1
  have gb := lead_good h'.2
  obtain ⟨d1, d2, _⟩ := M.both_facts ga.1 gb.1 (rfl : M.both (leadT o n f).m (leadT o m g).m = sprB o n f m g)
  unfold sprU sprV
  rw [if_pos h, if_pos h]
  exact ⟨sprT_good ga d1, sprT_good gb d2⟩
theorem sum_over {l b : M} (hd : l.dvd b = true) : M.mul (M.over b l).1 l = (b, true) := by
  rw [M.over, if_pos hd]
  obtain ⟨h1, h2, h3⟩ := M.dvd_iff hd
  have k1 := M.ok_iff.1 h1
  have k2 := M.ok_iff.1 h2
  have hok : (b.diff l).ok = true := by
    refine M.ok_iff.2 ?_
    simp only [M.diff]
    omega
  have hs : (b.diff l).sum l = b := by
    cases b; cases l
    simp only [M.diff, M.sum, M.mk.injEq]
    omega
  unfold M.mul
  rw [hs, if_pos ⟨hok, h1, h2⟩]
theorem mx_two (a b : Int) : mx a b - a = 0 ∨ mx a b - b = 0 := by unfold mx; split <;> omega
/-- what is true of the two terms of a pair. -/
theorem spr_law {o : Int} {n : Nat} {f : Nat → T} {m : Nat} {g : Nat → T} (h : sprOk o n f m g = true) :
    M.mul (sprU o n f m g).m (leadT o n f).m = (sprB o n f m g, true) ∧ M.mul (sprV o n f m g).m (leadT o m g).m = (sprB o n f m g, true) ∧ fMul (sprU o n f m g).c (leadT o n f).c = 1 ∧ fMul (sprV o n f m g).c (leadT o m g).c = 1 ∧
    ((sprU o n f m g).m.x = 0 ∨ (sprV o n f m g).m.x = 0) ∧ ((sprU o n f m g).m.y = 0 ∨ (sprV o n f m g).m.y = 0) ∧ ((sprU o n f m g).m.d = 0 ∨ (sprV o n f m g).m.d = 0) ∧ ((sprU o n f m g).m.e = 0 ∨ (sprV o n f m g).m.e = 0) := by
  have h' := h
  unfold sprOk at h'
  rw [Bool.and_eq_true] at h'
  have ga := lead_good h'.1
  have gb := lead_good h'.2
  obtain ⟨d1, d2, _⟩ := M.both_facts ga.1 gb.1 (rfl : M.both (leadT o n f).m (leadT o m g).m = sprB o n f m g)
  have d1 : (leadT o n f).m.dvd (sprB o n f m g) = true := d1
  have d2 : (leadT o m g).m.dvd (sprB o n f m g) = true := d2
  unfold sprU sprV
  rw [if_pos h, if_pos h]
  refine ⟨sum_over d1, sum_over d2, fMul_inv ⟨by omega, ga.2.2⟩ (by omega), fMul_inv ⟨by omega, gb.2.2⟩ (by omega), ?_⟩
  have e1 : (sprT (leadT o n f) (sprB o n f m g)).m = (sprB o n f m g).diff (leadT o n f).m := by show (M.over _ _).1 = _; rw [M.over, if_pos d1]
  have e2 : (sprT (leadT o m g) (sprB o n f m g)).m = (sprB o n f m g).diff (leadT o m g).m := by show (M.over _ _).1 = _; rw [M.over, if_pos d2]
  rw [e1, e2]
  unfold sprB
  rw [M.both, if_pos ⟨ga.1, gb.1⟩]
  exact ⟨mx_two _ _, mx_two _ _, mx_two _ _, mx_two _ _⟩
end Go.Proofs.Ytfjmpempemingaa
