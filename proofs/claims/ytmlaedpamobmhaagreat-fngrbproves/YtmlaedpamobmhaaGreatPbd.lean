/-
  The two terms of a pair of operators: the model.
  The two terms of a pair of operators: what is true of them.
  What is left of a pair of operators: the program and the model.
-/
import Derived.Test.YtmlaedpamobmhaaGreatPbc
import Derived.Test.YtmlaedpamobmhaaGreatPaf
import Derived.Test.YtmlaedpamobmhaaGreatPaz
namespace Go.Proofs.YtmlaedpamobmhaaGreat
open Go.RowKit Go.Deep Go.Joins
set_option linter.unusedVariables false

abbrev L6 (A B C : Nat) (x y : Int) (m : M) (u : World) : Prop := u.cell? ⟨A, 0, none⟩ = some (.int .i64 x) ∧ u.cell? ⟨B, 0, none⟩ = some (.int .i64 y) ∧ u.cell? ⟨C, 0, none⟩ = some (.int .i64 m.x) ∧ u.cell? ⟨C, 1, none⟩ = some (.int .i64 m.y) ∧ u.cell? ⟨C, 2, none⟩ = some (.int .i64 m.d) ∧ u.cell? ⟨C, 3, none⟩ = some (.int .i64 m.e)
theorem L6.set5d {A B C D : Nat} {x y : Int} {m : M} {u : World} {v0 v1 v2 v3 v4 : Value} (h : L6 A B C x y m u) (h1 : A ≠ D) (h2 : B ≠ D) (h3 : C ≠ D) : L6 A B C x y m (((((u.setCell ⟨D, 0, none⟩ v0).setCell ⟨D, 1, none⟩ v1).setCell ⟨D, 2, none⟩ v2).setCell ⟨D, 3, none⟩ v3).setCell ⟨D, 4, none⟩ v4).drew :=
  have key : ∀ v : World, L6 A B C x y m v → L6 A B C x y m v.drew := fun v h => h
  key _ ⟨(far5 h1).trans h.1, (far5 h2).trans h.2.1, (far5 h3).trans h.2.2.1, (far5 h3).trans h.2.2.2.1, (far5 h3).trans h.2.2.2.2.1, (far5 h3).trans h.2.2.2.2.2⟩
abbrev Q5 (B : Nat) (q : M) (u : World) : Prop := u.cell? ⟨B, 0, none⟩ = some (.int .i64 1) ∧ u.cell? ⟨B, 1, none⟩ = some (.int .i64 q.x) ∧ u.cell? ⟨B, 2, none⟩ = some (.int .i64 q.y) ∧ u.cell? ⟨B, 3, none⟩ = some (.int .i64 q.d) ∧ u.cell? ⟨B, 4, none⟩ = some (.int .i64 q.e)
theorem Q5.below {B : Nat} {q : M} {u u' : World} (h : Q5 B q u) (hb : Below u.heap.size u u') : Q5 B q u' :=
  have l := World.block_lt_of_cell? u ⟨B, 0, none⟩ h.1
  ⟨(hb.cell (p := ⟨B, 0, none⟩) l).trans h.1, (hb.cell (p := ⟨B, 1, none⟩) l).trans h.2.1, (hb.cell (p := ⟨B, 2, none⟩) l).trans h.2.2.1, (hb.cell (p := ⟨B, 3, none⟩) l).trans h.2.2.2.1, (hb.cell (p := ⟨B, 4, none⟩) l).trans h.2.2.2.2⟩
theorem Q5.far {w : World} {B b : Nat} {q : M} {v0 v1 v2 v3 v4 : Value} (m : Q5 b q w) (h : b ≠ B) : Q5 b q (((((w.setCell ⟨B, 0, none⟩ v0).setCell ⟨B, 1, none⟩ v1).setCell ⟨B, 2, none⟩ v2).setCell ⟨B, 3, none⟩ v3).setCell ⟨B, 4, none⟩ v4) :=
  ⟨(far5 h).trans m.1, (far5 h).trans m.2.1, (far5 h).trans m.2.2.1, (far5 h).trans m.2.2.2.1, (far5 h).trans m.2.2.2.2⟩
/-- the term that, times an operator, has a term as its greatest one. -/
def overT (t l : T) : T := ⟨t.c * fInv l.c % 101, (M.over t.m l.m).1⟩
set_option maxRecDepth 100000 in
set_option maxHeartbeats 4000000 in
theorem l7OverS (w : World) (o : Int) (t : T) (b : Option Addr) (m cb : Nat) (g : Nat → T) (hb : Rd w b m cb g) (hm : 0 < m) (hg : ∀ i, i < m → (g i).m.ok = true) (t1 : 0 ≤ t.c) (t2 : t.c ≤ 100) :
    Calls Tryz.prog 98 #[.int .i64 o, .agg #[.int .i64 t.c, .int .i64 t.m.x, .int .i64 t.m.y, .int .i64 t.m.d, .int .i64 t.m.e], .slice b m cb] w fun r w' => r = .returned (.agg #[.int .i64 (overT t (g (leadAt o g m))).c, .int .i64 (overT t (g (leadAt o g m))).m.x, .int .i64 (overT t (g (leadAt o g m))).m.y, .int .i64 (overT t (g (leadAt o g m))).m.d, .int .i64 (overT t (g (leadAt o g m))).m.e]) ∧ Below w.heap.size w w' := by
  have hmb : (m : Int) ≤ 140737488351232 := by have := hb.2.1; omega
  have HG := Hid.mk' hb
  have HM := Hid.mk' hg
  have HB0 := Hid.mk' (bel_two w (.cells #[.int .i64 t.c, .int .i64 t.m.x, .int .i64 t.m.y, .int .i64 t.m.d, .int .i64 t.m.e] 54) (.cells #[.int .i64 0, .int .i64 0, .int .i64 0, .int .i64 0, .int .i64 0] 54))
  have c1 := fun (W : World) (h : Rd W b m cb g) => l3LeadS W o b m cb g h hm HM.out
  clear hb hg
  generalize g (leadAt o g m) = l at *
  obtain ⟨q, bv, hq⟩ : ∃ q bv, M.over ⟨t.m.x, t.m.y, t.m.d, t.m.e⟩ ⟨l.m.x, l.m.y, l.m.d, l.m.e⟩ = (q, bv) := ⟨_, _, rfl⟩
  have e1 : overT t l = ⟨t.c * fInv l.c % 101, q⟩ := by unfold overT; rw [show M.over t.m l.m = (q, bv) from hq]
  rw [e1]
  clear e1
  obtain ⟨f1, f2⟩ := fInv_bd l.c
  obtain ⟨y, hy⟩ : ∃ y, fInv l.c = y := ⟨_, rfl⟩
  have c3 := fun W => invS l.c W
  rw [hy] at f1 f2 c3 ⊢
  clear hy
  have p1 : 0 ≤ t.c * y := Int.mul_nonneg t1 f1
  have p2 : t.c * y ≤ 10000 := by
    have h1 : t.c * y ≤ 100 * y := Int.mul_le_mul_of_nonneg_right t2 f1
    omega
  have p3 : IntKind.i64.wrap (t.c * y) = t.c * y := by rw [IntKind.wrap_i64]; omega
  have p4 : (t.c * y).tmod 101 = t.c * y % 101 := Int.tmod_eq_emod_of_nonneg p1
  go_enter Tryz.func98, Tryz.ntmps98
  go_wp2_with fail
  refine (c1 _ (HG.out.below HB0.out)).mono ?_
  rintro r w1 ⟨rfl, hb1⟩
  have HB1 := Hid.mk' (bel_next HB0.out hb1)
  have oA := ((C5.box w 54 t).below (bel_one (w.alloc (.cells #[.int .i64 t.c, .int .i64 t.m.x, .int .i64 t.m.y, .int .i64 t.m.d, .int .i64 t.m.e] 54)) (.cells #[.int .i64 0, .int .i64 0, .int .i64 0, .int .i64 0, .int .i64 0] 54))).below hb1
  have oB := (Own5.box (w.alloc (.cells #[.int .i64 t.c, .int .i64 t.m.x, .int .i64 t.m.y, .int .i64 t.m.d, .int .i64 t.m.e] 54)) 54 zeroT).below hb1
  rw [World.size_alloc] at oB
  have hz1 : w.heap.size + 1 < w1.heap.size := by have := hb1.size; simp at this; omega
  have OA := Hid.mk' oA
  have OB := Hid.mk' oB
  have HB2 := Hid.mk' (HB1.out.alloc HB1.out.size (.cells #[.int .i64 l.c, .int .i64 l.m.x, .int .i64 l.m.y, .int .i64 l.m.d, .int .i64 l.m.e] 54))
  obtain ⟨r0, r1, r2, r3, r4⟩ := oA
  clear hb1 c1 oB
  have hz0 : w.heap.size < w1.heap.size := by omega
  go_wp2_with fail
  clear r0 r1 r2 r3 r4
  refine (monOverS_of hq _).mono ?_
  rintro r w2 ⟨rfl, hb2⟩
  have HB3 := Hid.mk' (bel_next HB2.out hb2)
  have oA2 := (OA.out.below (bel_one w1 (.cells #[.int .i64 l.c, .int .i64 l.m.x, .int .i64 l.m.y, .int .i64 l.m.d, .int .i64 l.m.e] 54))).below hb2
  obtain ⟨⟨e0, e1, e2, e3, e4⟩, ez⟩ := (OB.out.below (bel_one w1 (.cells #[.int .i64 l.c, .int .i64 l.m.x, .int .i64 l.m.y, .int .i64 l.m.d, .int .i64 l.m.e] 54))).below hb2
  have oL := (C5.box w1 54 l).below hb2
  have hz2 : w1.heap.size < w2.heap.size := by have := hb2.size; simp at this; omega
  have hz3 : w.heap.size + 1 < w2.heap.size := by omega
  have hz4 : w.heap.size < w2.heap.size := by omega
  have k0 : w2.cell? ⟨w.heap.size, 0, none⟩ = some (.int .i64 t.c) := oA2.1
  have k1 : w2.cell? ⟨w1.heap.size, 0, none⟩ = some (.int .i64 l.c) := oL.1
  have HB4 := Hid.mk' (HB3.out.alloc HB3.out.size (.cells #[.int .i64 q.x, .int .i64 q.y, .int .i64 q.d, .int .i64 q.e] 52))
  have hS : L6 w.heap.size w1.heap.size w2.heap.size t.c l.c q (w2.alloc (.cells #[.int .i64 q.x, .int .i64 q.y, .int .i64 q.d, .int .i64 q.e] 52)) := by
    have h4 := M4.box w2 52 q.x q.y q.d q.e
    exact ⟨(World.cell?_alloc_lt _ _ _ hz4).trans k0, (World.cell?_alloc_lt _ _ _ hz2).trans k1, h4.1, h4.2.1, h4.2.2.1, h4.2.2.2⟩
  have s0 := (World.cell?_alloc_lt w2 (.cells #[.int .i64 q.x, .int .i64 q.y, .int .i64 q.d, .int .i64 q.e] 52) ⟨w.heap.size + 1, 0, none⟩ hz3).trans e0
  have s1 := (World.cell?_alloc_lt w2 (.cells #[.int .i64 q.x, .int .i64 q.y, .int .i64 q.d, .int .i64 q.e] 52) ⟨w.heap.size + 1, 1, none⟩ hz3).trans e1
  have s2 := (World.cell?_alloc_lt w2 (.cells #[.int .i64 q.x, .int .i64 q.y, .int .i64 q.d, .int .i64 q.e] 52) ⟨w.heap.size + 1, 2, none⟩ hz3).trans e2
  have s3 := (World.cell?_alloc_lt w2 (.cells #[.int .i64 q.x, .int .i64 q.y, .int .i64 q.d, .int .i64 q.e] 52) ⟨w.heap.size + 1, 3, none⟩ hz3).trans e3
  have s4 := (World.cell?_alloc_lt w2 (.cells #[.int .i64 q.x, .int .i64 q.y, .int .i64 q.d, .int .i64 q.e] 52) ⟨w.heap.size + 1, 4, none⟩ hz3).trans e4
  have sz := fun i => ((bel_one w2 (.cells #[.int .i64 q.x, .int .i64 q.y, .int .i64 q.d, .int .i64 q.e] 52)).frozen (p := ⟨w.heap.size + 1, i, none⟩) hz3).trans (ez i)
  clear hb2 oA2 oL OA OB hq
  go_wp2_with fail
  clear e0 e1 e2 e3 e4 ez
  generalize (w2.alloc (.cells #[.int .i64 q.x, .int .i64 q.y, .int .i64 q.d, .int .i64 q.e] 52)) = W at *
  have hSd : L6 w.heap.size w1.heap.size w2.heap.size t.c l.c q W.drew := hS
  have hn1 : w.heap.size ≠ w.heap.size + 1 := by omega
  have hn2 : w1.heap.size ≠ w.heap.size + 1 := by omega
  have hn3 : w2.heap.size ≠ w.heap.size + 1 := by omega
  go_region_held3 (fun u => u.cell? ⟨w.heap.size, 0, none⟩ = some (.int .i64 t.c) ∧ u.cell? ⟨w1.heap.size, 0, none⟩ = some (.int .i64 l.c) ∧ u.cell? ⟨w2.heap.size, 0, none⟩ = some (.int .i64 q.x) ∧ u.cell? ⟨w2.heap.size, 1, none⟩ = some (.int .i64 q.y) ∧ u.cell? ⟨w2.heap.size, 2, none⟩ = some (.int .i64 q.d) ∧ u.cell? ⟨w2.heap.size, 3, none⟩ = some (.int .i64 q.e)) (first | with_reducible exact hSd | with_reducible exact L6.set5d hS hn1 hn2 hn3) (first | (go_at_call 133; refine (c3 _).mono ?_; rintro r w7 ⟨rfl, hw7⟩; obtain rfl := hw7.symm; clear hw7))
  go_wp2
  refine bodyPost_ret (v := .agg #[.int .i64 (t.c * y % 101), .int .i64 q.x, .int .i64 q.y, .int .i64 q.d, .int .i64 q.e]) (by simp [results, Tryz.results98, go_sem, *]) rfl ⟨rfl, ?_⟩
  exact (bel_s5 HB4.out (by omega) _ _ _ _ _).drew
theorem overT_is {l : T} {b : M} : overT ⟨1, b⟩ l = sprT l b := by
  unfold overT sprT
  have := fInv_bd l.c
  congr 1
  show 1 * fInv l.c % 101 = fInv l.c
  omega
set_option maxRecDepth 100000 in
set_option maxHeartbeats 1000000 in
theorem sprTermsS_o (w : World) (o : Int) (a : Option Addr) (n ca : Nat) (f : Nat → T) (b : Option Addr) (m cb : Nat) (g : Nat → T) (ha : Rd w a n ca f) (hb : Rd w b m cb g) (ho' : o < 1 ∨ (1 ≤ o ∧ 3 < o)) :
    Calls Tryz.prog 85 #[.int .i64 o, .slice a n ca, .slice b m cb] w fun r w' => r = .returned (.tuple #[.agg #[.int .i64 0, .int .i64 0, .int .i64 0, .int .i64 0, .int .i64 0], .agg #[.int .i64 0, .int .i64 0, .int .i64 0, .int .i64 0, .int .i64 0], .bool false]) ∧ Below w.heap.size w w' := by
  have HA := Hid.mk' ha
  have HB := Hid.mk' hb
  have hla : (n : Int) ≤ 140737488351232 := by have := ha.2.1; omega
  have hlb : (m : Int) ≤ 140737488351232 := by have := hb.2.1; omega
  have HB0 := Hid.mk' (bel_two w (.cells #[.int .i64 0, .int .i64 0, .int .i64 0, .int .i64 0, .int .i64 0] 54) (.cells #[.int .i64 0, .int .i64 0, .int .i64 0, .int .i64 0, .int .i64 0] 54))
  have oA0 := (Own5.box w 54 zeroT).below (bel_one (w.alloc (.cells #[.int .i64 0, .int .i64 0, .int .i64 0, .int .i64 0, .int .i64 0] 54)) (.cells #[.int .i64 0, .int .i64 0, .int .i64 0, .int .i64 0, .int .i64 0] 54))
  have oB0 := Own5.box (w.alloc (.cells #[.int .i64 0, .int .i64 0, .int .i64 0, .int .i64 0, .int .i64 0] 54)) 54 zeroT
  rw [World.size_alloc] at oB0
  have OA := Hid.mk' oA0
  have OB := Hid.mk' oB0
  clear ha hb oA0 oB0
  go_enter Tryz.func85, Tryz.ntmps85
  go_wp2_with (go_at_call 43; refine (inS_out _ _ _ _ ho').mono ?_; rintro r w' ⟨rfl, hw'⟩; obtain rfl := hw'.symm; clear hw')
  refine bodyPost_ret (v := .tuple #[.agg #[.int .i64 0, .int .i64 0, .int .i64 0, .int .i64 0, .int .i64 0], .agg #[.int .i64 0, .int .i64 0, .int .i64 0, .int .i64 0, .int .i64 0], .bool false]) (by simp [results, Tryz.results85, go_sem, *]) rfl ⟨rfl, HB0.out⟩
set_option maxRecDepth 100000 in
set_option maxHeartbeats 1000000 in
theorem sprTermsS_a (w : World) (o : Int) (a : Option Addr) (n ca : Nat) (f : Nat → T) (b : Option Addr) (m cb : Nat) (g : Nat → T) (ha : Rd w a n ca f) (hb : Rd w b m cb g) (o1 : 1 ≤ o) (o2 : o ≤ 3) (hp : polOk n f = false) :
    Calls Tryz.prog 85 #[.int .i64 o, .slice a n ca, .slice b m cb] w fun r w' => r = .returned (.tuple #[.agg #[.int .i64 0, .int .i64 0, .int .i64 0, .int .i64 0, .int .i64 0], .agg #[.int .i64 0, .int .i64 0, .int .i64 0, .int .i64 0, .int .i64 0], .bool false]) ∧ Below w.heap.size w w' := by
  have HA := Hid.mk' ha
  have HB := Hid.mk' hb
  have hla : (n : Int) ≤ 140737488351232 := by have := ha.2.1; omega
  have hlb : (m : Int) ≤ 140737488351232 := by have := hb.2.1; omega
  have HB0 := Hid.mk' (bel_two w (.cells #[.int .i64 0, .int .i64 0, .int .i64 0, .int .i64 0, .int .i64 0] 54) (.cells #[.int .i64 0, .int .i64 0, .int .i64 0, .int .i64 0, .int .i64 0] 54))
  have oA0 := (Own5.box w 54 zeroT).below (bel_one (w.alloc (.cells #[.int .i64 0, .int .i64 0, .int .i64 0, .int .i64 0, .int .i64 0] 54)) (.cells #[.int .i64 0, .int .i64 0, .int .i64 0, .int .i64 0, .int .i64 0] 54))
  have oB0 := Own5.box (w.alloc (.cells #[.int .i64 0, .int .i64 0, .int .i64 0, .int .i64 0, .int .i64 0] 54)) 54 zeroT
  rw [World.size_alloc] at oB0
  have OA := Hid.mk' oA0
  have OB := Hid.mk' oB0
  clear ha hb oA0 oB0
  go_enter Tryz.func85, Tryz.ntmps85
  go_wp2_with (go_at_call 43; refine (inS_in _ _ _ _ o1 o2).mono ?_; rintro r w' ⟨rfl, hw'⟩; obtain rfl := hw'.symm; clear hw')
  refine (polOkS _ _ _ _ f (HA.out.below HB0.out)).mono ?_
  rw [hp]
  rintro r w1 ⟨rfl, hb1⟩
  have HB1 := Hid.mk' (bel_next HB0.out hb1)
  have OA1 := Hid.mk' (OA.out.below hb1)
  have OB1 := Hid.mk' (OB.out.below hb1)
  clear hb1 OA OB
  obtain ⟨⟨e0, e1, e2, e3, e4⟩, ez⟩ := OA1.out
  obtain ⟨⟨g0, g1, g2, g3, g4⟩, gz⟩ := OB1.out
  have hl2 : w.heap.size + 1 < w1.heap.size := World.block_lt_of_cell? w1 _ g0
  have hl1 : w.heap.size < w1.heap.size := by omega
  go_wp2
  refine bodyPost_ret (v := .tuple #[.agg #[.int .i64 0, .int .i64 0, .int .i64 0, .int .i64 0, .int .i64 0], .agg #[.int .i64 0, .int .i64 0, .int .i64 0, .int .i64 0, .int .i64 0], .bool false]) (by simp [results, Tryz.results85, go_sem, *]) rfl ⟨rfl, ?_⟩
  with_reducible exact bel_s5 (bel_s5 HB1.out (by omega) _ _ _ _ _) (by omega) _ _ _ _ _
set_option maxRecDepth 100000 in
set_option maxHeartbeats 1000000 in
theorem sprTermsS_b (w : World) (o : Int) (a : Option Addr) (n ca : Nat) (f : Nat → T) (b : Option Addr) (m cb : Nat) (g : Nat → T) (ha : Rd w a n ca f) (hb : Rd w b m cb g) (o1 : 1 ≤ o) (o2 : o ≤ 3) (hp : polOk n f = true) (hq : polOk m g = false) :
    Calls Tryz.prog 85 #[.int .i64 o, .slice a n ca, .slice b m cb] w fun r w' => r = .returned (.tuple #[.agg #[.int .i64 0, .int .i64 0, .int .i64 0, .int .i64 0, .int .i64 0], .agg #[.int .i64 0, .int .i64 0, .int .i64 0, .int .i64 0, .int .i64 0], .bool false]) ∧ Below w.heap.size w w' := by
  have HA := Hid.mk' ha
  have HB := Hid.mk' hb
  have hla : (n : Int) ≤ 140737488351232 := by have := ha.2.1; omega
  have hlb : (m : Int) ≤ 140737488351232 := by have := hb.2.1; omega
  have HB0 := Hid.mk' (bel_two w (.cells #[.int .i64 0, .int .i64 0, .int .i64 0, .int .i64 0, .int .i64 0] 54) (.cells #[.int .i64 0, .int .i64 0, .int .i64 0, .int .i64 0, .int .i64 0] 54))
  have oA0 := (Own5.box w 54 zeroT).below (bel_one (w.alloc (.cells #[.int .i64 0, .int .i64 0, .int .i64 0, .int .i64 0, .int .i64 0] 54)) (.cells #[.int .i64 0, .int .i64 0, .int .i64 0, .int .i64 0, .int .i64 0] 54))
  have oB0 := Own5.box (w.alloc (.cells #[.int .i64 0, .int .i64 0, .int .i64 0, .int .i64 0, .int .i64 0] 54)) 54 zeroT
  rw [World.size_alloc] at oB0
  have OA := Hid.mk' oA0
  have OB := Hid.mk' oB0
  clear ha hb oA0 oB0
  go_enter Tryz.func85, Tryz.ntmps85
  go_wp2_with (go_at_call 43; refine (inS_in _ _ _ _ o1 o2).mono ?_; rintro r w' ⟨rfl, hw'⟩; obtain rfl := hw'.symm; clear hw')
  refine (polOkS _ _ _ _ f (HA.out.below HB0.out)).mono ?_
  rw [hp]
  rintro r w1 ⟨rfl, hb1⟩
  have HB1 := Hid.mk' (bel_next HB0.out hb1)
  have OA1 := Hid.mk' (OA.out.below hb1)
  have OB1 := Hid.mk' (OB.out.below hb1)
  clear hb1 OA OB
  go_wp2_with fail
  refine (polOkS _ _ _ _ g (HB.out.below HB1.out)).mono ?_
  rw [hq]
  rintro r w2 ⟨rfl, hb1⟩
  have HB2 := Hid.mk' (bel_next HB1.out hb1)
  have OA11 := Hid.mk' (OA1.out.below hb1)
  have OB11 := Hid.mk' (OB1.out.below hb1)
  clear hb1 OA1 OB1
  obtain ⟨⟨e0, e1, e2, e3, e4⟩, ez⟩ := OA11.out
  obtain ⟨⟨g0, g1, g2, g3, g4⟩, gz⟩ := OB11.out
  have hl2 : w.heap.size + 1 < w2.heap.size := World.block_lt_of_cell? w2 _ g0
  have hl1 : w.heap.size < w2.heap.size := by omega
  go_wp2
  refine bodyPost_ret (v := .tuple #[.agg #[.int .i64 0, .int .i64 0, .int .i64 0, .int .i64 0, .int .i64 0], .agg #[.int .i64 0, .int .i64 0, .int .i64 0, .int .i64 0, .int .i64 0], .bool false]) (by simp [results, Tryz.results85, go_sem, *]) rfl ⟨rfl, ?_⟩
  with_reducible exact bel_s5 (bel_s5 HB2.out (by omega) _ _ _ _ _) (by omega) _ _ _ _ _
set_option maxRecDepth 100000 in
set_option maxHeartbeats 1000000 in
theorem sprTermsS_n (w : World) (o : Int) (a : Option Addr) (n ca : Nat) (f : Nat → T) (b : Option Addr) (m cb : Nat) (g : Nat → T) (ha : Rd w a n ca f) (hb : Rd w b m cb g) (o1 : 1 ≤ o) (o2 : o ≤ 3) (hp : polOk n f = true) (hq : polOk m g = true) (h0 : n = 0) :
    Calls Tryz.prog 85 #[.int .i64 o, .slice a n ca, .slice b m cb] w fun r w' => r = .returned (.tuple #[.agg #[.int .i64 0, .int .i64 0, .int .i64 0, .int .i64 0, .int .i64 0], .agg #[.int .i64 0, .int .i64 0, .int .i64 0, .int .i64 0, .int .i64 0], .bool false]) ∧ Below w.heap.size w w' := by
  have HA := Hid.mk' ha
  have HB := Hid.mk' hb
  have hla : (n : Int) ≤ 140737488351232 := by have := ha.2.1; omega
  have hlb : (m : Int) ≤ 140737488351232 := by have := hb.2.1; omega
  have HB0 := Hid.mk' (bel_two w (.cells #[.int .i64 0, .int .i64 0, .int .i64 0, .int .i64 0, .int .i64 0] 54) (.cells #[.int .i64 0, .int .i64 0, .int .i64 0, .int .i64 0, .int .i64 0] 54))
  have oA0 := (Own5.box w 54 zeroT).below (bel_one (w.alloc (.cells #[.int .i64 0, .int .i64 0, .int .i64 0, .int .i64 0, .int .i64 0] 54)) (.cells #[.int .i64 0, .int .i64 0, .int .i64 0, .int .i64 0, .int .i64 0] 54))
  have oB0 := Own5.box (w.alloc (.cells #[.int .i64 0, .int .i64 0, .int .i64 0, .int .i64 0, .int .i64 0] 54)) 54 zeroT
  rw [World.size_alloc] at oB0
  have OA := Hid.mk' oA0
  have OB := Hid.mk' oB0
  clear ha hb oA0 oB0
  have hne : ((n : Int) == 0) = true := by simp; omega
  clear h0
  go_enter Tryz.func85, Tryz.ntmps85
  go_wp2_with (go_at_call 43; refine (inS_in _ _ _ _ o1 o2).mono ?_; rintro r w' ⟨rfl, hw'⟩; obtain rfl := hw'.symm; clear hw')
  refine (polOkS _ _ _ _ f (HA.out.below HB0.out)).mono ?_
  rw [hp]
  rintro r w1 ⟨rfl, hb1⟩
  have HB1 := Hid.mk' (bel_next HB0.out hb1)
  have OA1 := Hid.mk' (OA.out.below hb1)
  have OB1 := Hid.mk' (OB.out.below hb1)
  clear hb1 OA OB
  go_wp2_with fail
  refine (polOkS _ _ _ _ g (HB.out.below HB1.out)).mono ?_
  rw [hq]
  rintro r w2 ⟨rfl, hb1⟩
  have HB2 := Hid.mk' (bel_next HB1.out hb1)
  have OA11 := Hid.mk' (OA1.out.below hb1)
  have OB11 := Hid.mk' (OB1.out.below hb1)
  clear hb1 OA1 OB1
  obtain ⟨⟨e0, e1, e2, e3, e4⟩, ez⟩ := OA11.out
  obtain ⟨⟨g0, g1, g2, g3, g4⟩, gz⟩ := OB11.out
  have hl2 : w.heap.size + 1 < w2.heap.size := World.block_lt_of_cell? w2 _ g0
  have hl1 : w.heap.size < w2.heap.size := by omega
  go_wp2
  refine bodyPost_ret (v := .tuple #[.agg #[.int .i64 0, .int .i64 0, .int .i64 0, .int .i64 0, .int .i64 0], .agg #[.int .i64 0, .int .i64 0, .int .i64 0, .int .i64 0, .int .i64 0], .bool false]) (by simp [results, Tryz.results85, go_sem, *]) rfl ⟨rfl, ?_⟩
  with_reducible exact bel_s5 (bel_s5 HB2.out (by omega) _ _ _ _ _) (by omega) _ _ _ _ _
set_option maxRecDepth 100000 in
set_option maxHeartbeats 1000000 in
theorem sprTermsS_m (w : World) (o : Int) (a : Option Addr) (n ca : Nat) (f : Nat → T) (b : Option Addr) (m cb : Nat) (g : Nat → T) (ha : Rd w a n ca f) (hb : Rd w b m cb g) (o1 : 1 ≤ o) (o2 : o ≤ 3) (hp : polOk n f = true) (hq : polOk m g = true) (h0 : n ≠ 0) (h1 : m = 0) :
    Calls Tryz.prog 85 #[.int .i64 o, .slice a n ca, .slice b m cb] w fun r w' => r = .returned (.tuple #[.agg #[.int .i64 0, .int .i64 0, .int .i64 0, .int .i64 0, .int .i64 0], .agg #[.int .i64 0, .int .i64 0, .int .i64 0, .int .i64 0, .int .i64 0], .bool false]) ∧ Below w.heap.size w w' := by
  have HA := Hid.mk' ha
  have HB := Hid.mk' hb
  have hla : (n : Int) ≤ 140737488351232 := by have := ha.2.1; omega
  have hlb : (m : Int) ≤ 140737488351232 := by have := hb.2.1; omega
  have HB0 := Hid.mk' (bel_two w (.cells #[.int .i64 0, .int .i64 0, .int .i64 0, .int .i64 0, .int .i64 0] 54) (.cells #[.int .i64 0, .int .i64 0, .int .i64 0, .int .i64 0, .int .i64 0] 54))
  have oA0 := (Own5.box w 54 zeroT).below (bel_one (w.alloc (.cells #[.int .i64 0, .int .i64 0, .int .i64 0, .int .i64 0, .int .i64 0] 54)) (.cells #[.int .i64 0, .int .i64 0, .int .i64 0, .int .i64 0, .int .i64 0] 54))
  have oB0 := Own5.box (w.alloc (.cells #[.int .i64 0, .int .i64 0, .int .i64 0, .int .i64 0, .int .i64 0] 54)) 54 zeroT
  rw [World.size_alloc] at oB0
  have OA := Hid.mk' oA0
  have OB := Hid.mk' oB0
  clear ha hb oA0 oB0
  have hne : ((n : Int) == 0) = false := by simp; omega
  have hme : ((m : Int) == 0) = true := by simp; omega
  clear h0 h1
  go_enter Tryz.func85, Tryz.ntmps85
  go_wp2_with (go_at_call 43; refine (inS_in _ _ _ _ o1 o2).mono ?_; rintro r w' ⟨rfl, hw'⟩; obtain rfl := hw'.symm; clear hw')
  refine (polOkS _ _ _ _ f (HA.out.below HB0.out)).mono ?_
  rw [hp]
  rintro r w1 ⟨rfl, hb1⟩
  have HB1 := Hid.mk' (bel_next HB0.out hb1)
  have OA1 := Hid.mk' (OA.out.below hb1)
  have OB1 := Hid.mk' (OB.out.below hb1)
  clear hb1 OA OB
  go_wp2_with fail
  refine (polOkS _ _ _ _ g (HB.out.below HB1.out)).mono ?_
  rw [hq]
  rintro r w2 ⟨rfl, hb1⟩
  have HB2 := Hid.mk' (bel_next HB1.out hb1)
  have OA11 := Hid.mk' (OA1.out.below hb1)
  have OB11 := Hid.mk' (OB1.out.below hb1)
  clear hb1 OA1 OB1
  obtain ⟨⟨e0, e1, e2, e3, e4⟩, ez⟩ := OA11.out
  obtain ⟨⟨g0, g1, g2, g3, g4⟩, gz⟩ := OB11.out
  have hl2 : w.heap.size + 1 < w2.heap.size := World.block_lt_of_cell? w2 _ g0
  have hl1 : w.heap.size < w2.heap.size := by omega
  go_wp2
  refine bodyPost_ret (v := .tuple #[.agg #[.int .i64 0, .int .i64 0, .int .i64 0, .int .i64 0, .int .i64 0], .agg #[.int .i64 0, .int .i64 0, .int .i64 0, .int .i64 0, .int .i64 0], .bool false]) (by simp [results, Tryz.results85, go_sem, *]) rfl ⟨rfl, ?_⟩
  with_reducible exact bel_s5 (bel_s5 HB2.out (by omega) _ _ _ _ _) (by omega) _ _ _ _ _
set_option maxRecDepth 100000 in
set_option maxHeartbeats 1000000 in
theorem sprTermsS_y (w : World) (o : Int) (a : Option Addr) (n ca : Nat) (f : Nat → T) (b : Option Addr) (m cb : Nat) (g : Nat → T) (ha : Rd w a n ca f) (hb : Rd w b m cb g) (o1 : 1 ≤ o) (o2 : o ≤ 3) (hp : polOk n f = true) (hq : polOk m g = true) (pn : 0 < n) (pm : 0 < m) :
    Calls Tryz.prog 85 #[.int .i64 o, .slice a n ca, .slice b m cb] w fun r w' => r = .returned (.tuple #[.agg #[.int .i64 (sprU o n f m g).c, .int .i64 (sprU o n f m g).m.x, .int .i64 (sprU o n f m g).m.y, .int .i64 (sprU o n f m g).m.d, .int .i64 (sprU o n f m g).m.e], .agg #[.int .i64 (sprV o n f m g).c, .int .i64 (sprV o n f m g).m.x, .int .i64 (sprV o n f m g).m.y, .int .i64 (sprV o n f m g).m.d, .int .i64 (sprV o n f m g).m.e], .bool (sprOk o n f m g)]) ∧ Below w.heap.size w w' := by
  have HA := Hid.mk' ha
  have HB := Hid.mk' hb
  have hla : (n : Int) ≤ 140737488351232 := by have := ha.2.1; omega
  have hlb : (m : Int) ≤ 140737488351232 := by have := hb.2.1; omega
  have HB0 := Hid.mk' (bel_two w (.cells #[.int .i64 0, .int .i64 0, .int .i64 0, .int .i64 0, .int .i64 0] 54) (.cells #[.int .i64 0, .int .i64 0, .int .i64 0, .int .i64 0, .int .i64 0] 54))
  have oA0 := (Own5.box w 54 zeroT).below (bel_one (w.alloc (.cells #[.int .i64 0, .int .i64 0, .int .i64 0, .int .i64 0, .int .i64 0] 54)) (.cells #[.int .i64 0, .int .i64 0, .int .i64 0, .int .i64 0, .int .i64 0] 54))
  have oB0 := Own5.box (w.alloc (.cells #[.int .i64 0, .int .i64 0, .int .i64 0, .int .i64 0, .int .i64 0] 54)) 54 zeroT
  rw [World.size_alloc] at oB0
  have OA := Hid.mk' oA0
  have OB := Hid.mk' oB0
  clear ha hb oA0 oB0
  have hk1 : leadOk o n f = true := by unfold leadOk; rw [hp, decide_eq_true (show 1 ≤ o ∧ o ≤ 3 from ⟨o1, o2⟩), decide_eq_true pn]; rfl
  have hk2 : leadOk o m g = true := by unfold leadOk; rw [hq, decide_eq_true (show 1 ≤ o ∧ o ≤ 3 from ⟨o1, o2⟩), decide_eq_true pm]; rfl
  have hk : sprOk o n f m g = true := by unfold sprOk; rw [hk1, hk2]; rfl
  have eU : sprU o n f m g = overT ⟨1, M.both (f (leadAt o f n)).m (g (leadAt o g m)).m⟩ (f (leadAt o f n)) := by
    rw [overT_is]; unfold sprU sprB; rw [if_pos hk, leadT_yes hk1, leadT_yes hk2]
  have eV : sprV o n f m g = overT ⟨1, M.both (f (leadAt o f n)).m (g (leadAt o g m)).m⟩ (g (leadAt o g m)) := by
    rw [overT_is]; unfold sprV sprB; rw [if_pos hk, leadT_yes hk1, leadT_yes hk2]
  rw [eU, eV, hk]
  have hne : ((n : Int) == 0) = false := by simp; omega
  have hme : ((m : Int) == 0) = false := by simp; omega
  have HF := Hid.mk' (polOk_m hp)
  have HG := Hid.mk' (polOk_m hq)
  have c1 := fun (W : World) (h : Rd W a n ca f) => l3LeadS W o a n ca f h pn HF.out
  have c2 := fun (W : World) (h : Rd W b m cb g) => l3LeadS W o b m cb g h pm HG.out
  have c3 := fun (W : World) (q : M) (h : Rd W a n ca f) => l7OverS W o ⟨1, q⟩ a n ca f h pn HF.out (show (0 : Int) ≤ 1 by decide) (show (1 : Int) ≤ 100 by decide)
  have c4 := fun (W : World) (q : M) (h : Rd W b m cb g) => l7OverS W o ⟨1, q⟩ b m cb g h pm HG.out (show (0 : Int) ≤ 1 by decide) (show (1 : Int) ≤ 100 by decide)
  clear eU eV hk hk1 hk2 pn pm
  generalize f (leadAt o f n) = s at *
  generalize g (leadAt o g m) = t at *
  obtain ⟨q, hqq⟩ : ∃ q, M.both ⟨s.m.x, s.m.y, s.m.d, s.m.e⟩ ⟨t.m.x, t.m.y, t.m.d, t.m.e⟩ = q := ⟨_, rfl⟩
  rw [show M.both s.m t.m = q from hqq]
  have d3 := fun W => c3 W q
  have d4 := fun W => c4 W q
  clear c3 c4
  generalize overT ⟨1, q⟩ s = U at *
  generalize overT ⟨1, q⟩ t = V at *
  dsimp only at d3 d4
  have hfs : ∀ W : World, (Instr.field 54 (Value.agg #[.int .i64 s.c, .int .i64 s.m.x, .int .i64 s.m.y, .int .i64 s.m.d, .int .i64 s.m.e]) 1).run Tryz.prog W = .ok (Value.agg #[.int .i64 s.m.x, .int .i64 s.m.y, .int .i64 s.m.d, .int .i64 s.m.e]) W := fun W => by kernel_rfl
  have hft : ∀ W : World, (Instr.field 54 (Value.agg #[.int .i64 t.c, .int .i64 t.m.x, .int .i64 t.m.y, .int .i64 t.m.d, .int .i64 t.m.e]) 1).run Tryz.prog W = .ok (Value.agg #[.int .i64 t.m.x, .int .i64 t.m.y, .int .i64 t.m.d, .int .i64 t.m.e]) W := fun W => by kernel_rfl
  go_enter Tryz.func85, Tryz.ntmps85
  go_wp2_with (go_at_call 43; refine (inS_in _ _ _ _ o1 o2).mono ?_; rintro r w' ⟨rfl, hw'⟩; obtain rfl := hw'.symm; clear hw')
  refine (polOkS _ _ _ _ f (HA.out.below HB0.out)).mono ?_
  rw [hp]
  rintro r w1 ⟨rfl, hb1⟩
  have HB1 := Hid.mk' (bel_next HB0.out hb1)
  have OA1 := Hid.mk' (OA.out.below hb1)
  have OB1 := Hid.mk' (OB.out.below hb1)
  clear hb1 OA OB
  go_wp2_with fail
  refine (polOkS _ _ _ _ g (HB.out.below HB1.out)).mono ?_
  rw [hq]
  rintro r w2 ⟨rfl, hb1⟩
  have HB2 := Hid.mk' (bel_next HB1.out hb1)
  have OA11 := Hid.mk' (OA1.out.below hb1)
  have OB11 := Hid.mk' (OB1.out.below hb1)
  clear hb1 OA1 OB1
  go_wp2_with fail
  refine (c1 _ (HA.out.below HB2.out)).mono ?_
  rintro r w3 ⟨rfl, hb3⟩
  have HB3 := Hid.mk' (bel_next HB2.out hb3)
  have OA3 := Hid.mk' (OA11.out.below hb3)
  have OB3 := Hid.mk' (OB11.out.below hb3)
  clear hb3
  go_wp2_with fail
  refine (c2 _ (HB.out.below HB3.out)).mono ?_
  rintro r w4 ⟨rfl, hb4⟩
  have HB4 := Hid.mk' (bel_next HB3.out hb4)
  have OA4 := Hid.mk' (OA3.out.below hb4)
  have OB4 := Hid.mk' (OB3.out.below hb4)
  clear hb4
  go_wp2_with fail
  refine (monBothS_of hqq _).mono ?_
  rintro r w5 ⟨rfl, hb5⟩
  have HB5 := Hid.mk' (bel_next HB4.out hb5)
  have OA5 := Hid.mk' (OA4.out.below hb5)
  have OB5 := Hid.mk' (OB4.out.below hb5)
  have SZ5 : Hid (w.heap.size + 1 < w5.heap.size) := World.block_lt_of_cell? w5 _ OB5.out.1.1
  clear hb5 hqq OA11 OB11 OA3 OB3 OA4 OB4 HB0 HB1 HB2 HB3 HB4 c1 c2 hp hq
  have tC := C5.box w5 54 ⟨1, q⟩
  have OA6 := Hid.mk' (OA5.out.below (bel_one w5 (.cells #[.int .i64 1, .int .i64 q.x, .int .i64 q.y, .int .i64 q.d, .int .i64 q.e] 54)))
  have OB6 := Hid.mk' (OB5.out.below (bel_one w5 (.cells #[.int .i64 1, .int .i64 q.x, .int .i64 q.y, .int .i64 q.d, .int .i64 q.e] 54)))
  have HB6 := Hid.mk' (HB5.out.alloc HB5.out.size (.cells #[.int .i64 1, .int .i64 q.x, .int .i64 q.y, .int .i64 q.d, .int .i64 q.e] 54))
  go_wp2_with fail
  clear OA5 OB5 HB5
  generalize (w5.alloc (.cells #[.int .i64 1, .int .i64 q.x, .int .i64 q.y, .int .i64 q.d, .int .i64 q.e] 54)) = W at *
  have hbx : w5.heap.size ≠ w.heap.size ∧ w5.heap.size ≠ w.heap.size + 1 := by have := SZ5.out; omega
  obtain ⟨hn1, hn2⟩ := hbx
  have HA6 := Hid.mk' (HA.out.below HB6.out.drew)
  have HBb6 := Hid.mk' (HB.out.below HB6.out.drew)
  have tCd : Q5 w5.heap.size q W.drew := tC
  have OAd : Hid (Own5 W.drew w.heap.size zeroT) := OA6.out
  have OBd : Hid (Own5 W.drew (w.heap.size + 1) zeroT) := OB6.out
  have HBd := Hid.mk' HB6.out.drew
  clear OA6 OB6
  go_region_held3 (fun u => u.cell? ⟨w5.heap.size, 0, none⟩ = some (.int .i64 1) ∧ u.cell? ⟨w5.heap.size, 1, none⟩ = some (.int .i64 q.x) ∧ u.cell? ⟨w5.heap.size, 2, none⟩ = some (.int .i64 q.y) ∧ u.cell? ⟨w5.heap.size, 3, none⟩ = some (.int .i64 q.d) ∧ u.cell? ⟨w5.heap.size, 4, none⟩ = some (.int .i64 q.e)) (first | with_reducible exact tCd | with_reducible exact Q5.below tCd b1 | with_reducible exact Q5.below (Q5.below tCd b1) b2 | with_reducible exact Q5.far (by assumption) hn1 | with_reducible exact Q5.far (by assumption) hn2) (first | (go_at_call 98; (with_reducible refine (d3 _ HA6.out).mono ?_); rintro r w6 ⟨rfl, b1⟩) | (go_at_call 98; (with_reducible refine (d4 _ (HBb6.out.below b1)).mono ?_); rintro r w7 ⟨rfl, b2⟩; obtain ⟨⟨e0, e1, e2, e3, e4⟩, ez⟩ := (OAd.out.below b1).below b2; obtain ⟨⟨g0, g1, g2, g3, g4⟩, gz⟩ := (OBd.out.below b1).below b2))
  have HB7 := Hid.mk' (bel_next (bel_next HBd.out b1) b2)
  go_wp2
  refine bodyPost_ret (v := .tuple #[.agg #[.int .i64 U.c, .int .i64 U.m.x, .int .i64 U.m.y, .int .i64 U.m.d, .int .i64 U.m.e], .agg #[.int .i64 V.c, .int .i64 V.m.x, .int .i64 V.m.y, .int .i64 V.m.d, .int .i64 V.m.e], .bool true]) (by simp [results, Tryz.results85, go_sem, *]) rfl ⟨rfl, ?_⟩
  with_reducible exact bel_s5 (bel_s5 HB7.out (by omega) _ _ _ _ _) (by omega) _ _ _ _ _
set_option maxRecDepth 100000 in
set_option maxHeartbeats 1000000 in
theorem sprTermsS (w : World) (o : Int) (a : Option Addr) (n ca : Nat) (f : Nat → T) (b : Option Addr) (m cb : Nat) (g : Nat → T) (ha : Rd w a n ca f) (hb : Rd w b m cb g) :
    Calls Tryz.prog 85 #[.int .i64 o, .slice a n ca, .slice b m cb] w fun r w' => r = .returned (.tuple #[.agg #[.int .i64 (sprU o n f m g).c, .int .i64 (sprU o n f m g).m.x, .int .i64 (sprU o n f m g).m.y, .int .i64 (sprU o n f m g).m.d, .int .i64 (sprU o n f m g).m.e], .agg #[.int .i64 (sprV o n f m g).c, .int .i64 (sprV o n f m g).m.x, .int .i64 (sprV o n f m g).m.y, .int .i64 (sprV o n f m g).m.d, .int .i64 (sprV o n f m g).m.e], .bool (sprOk o n f m g)]) ∧ Below w.heap.size w w' := by
  have key : sprOk o n f m g = false → (Calls Tryz.prog 85 #[.int .i64 o, .slice a n ca, .slice b m cb] w fun r w' => r = .returned (.tuple #[.agg #[.int .i64 0, .int .i64 0, .int .i64 0, .int .i64 0, .int .i64 0], .agg #[.int .i64 0, .int .i64 0, .int .i64 0, .int .i64 0, .int .i64 0], .bool false]) ∧ Below w.heap.size w w') → Calls Tryz.prog 85 #[.int .i64 o, .slice a n ca, .slice b m cb] w fun r w' => r = .returned (.tuple #[.agg #[.int .i64 (sprU o n f m g).c, .int .i64 (sprU o n f m g).m.x, .int .i64 (sprU o n f m g).m.y, .int .i64 (sprU o n f m g).m.d, .int .i64 (sprU o n f m g).m.e], .agg #[.int .i64 (sprV o n f m g).c, .int .i64 (sprV o n f m g).m.x, .int .i64 (sprV o n f m g).m.y, .int .i64 (sprV o n f m g).m.d, .int .i64 (sprV o n f m g).m.e], .bool (sprOk o n f m g)]) ∧ Below w.heap.size w w' := fun hk h => by
    have eU : sprU o n f m g = zeroT := if_neg (by rw [hk]; decide)
    have eV : sprV o n f m g = zeroT := if_neg (by rw [hk]; decide)
    rw [eU, eV, hk]
    exact h
  by_cases ho : 1 ≤ o ∧ o ≤ 3
  · obtain ⟨o1, o2⟩ := ho
    cases hp : polOk n f
    · exact key (by unfold sprOk leadOk; simp [hp]) (sprTermsS_a w o a n ca f b m cb g ha hb o1 o2 hp)
    · cases hq : polOk m g
      · exact key (by unfold sprOk leadOk; simp [hq]) (sprTermsS_b w o a n ca f b m cb g ha hb o1 o2 hp hq)
      · by_cases hn0 : n = 0
        · exact key (by unfold sprOk leadOk; simp [hn0]) (sprTermsS_n w o a n ca f b m cb g ha hb o1 o2 hp hq hn0)
        · by_cases hm0 : m = 0
          · exact key (by unfold sprOk leadOk; simp [hm0]) (sprTermsS_m w o a n ca f b m cb g ha hb o1 o2 hp hq hn0 hm0)
          · exact sprTermsS_y w o a n ca f b m cb g ha hb o1 o2 hp hq (by omega) (by omega)
  · exact key (by unfold sprOk leadOk; simp [ho]) (sprTermsS_o w o a n ca f b m cb g ha hb (by omega))
end Go.Proofs.YtmlaedpamobmhaaGreat
namespace Go.Proofs.YtmlaedpamobmhaaGreat
open Go.RowKit Go.Deep Go.Joins
set_option linter.unusedVariables false

theorem leadFrom_lt {o : Int} {f : Nat → T} : ∀ u i k n, k < n → i + u ≤ n → leadFrom o f u i k < n
  | 0, _, _, _, h, _ => h
  | u + 1, i, k, n, h, h2 => by
    unfold leadFrom
    split
    · exact leadFrom_lt u (i + 1) i n (by omega) (by omega)
    · exact leadFrom_lt u (i + 1) k n h (by omega)
theorem leadAt_lt {o : Int} {f : Nat → T} {n : Nat} (h : 0 < n) : leadAt o f n < n := leadFrom_lt (n - 1) 1 0 n h (by omega)
theorem leadOk_parts {o : Int} {n : Nat} {f : Nat → T} (h : leadOk o n f = true) : (1 ≤ o ∧ o ≤ 3) ∧ polOk n f = true ∧ 0 < n := by
  unfold leadOk at h
  simp only [Bool.and_eq_true, decide_eq_true_eq] at h
  exact ⟨h.1.1, h.1.2, h.2⟩
theorem lead_good {o : Int} {n : Nat} {f : Nat → T} (h : leadOk o n f = true) : (leadT o n f).m.ok = true ∧ 1 ≤ (leadT o n f).c ∧ (leadT o n f).c ≤ 100 := by
  obtain ⟨ho, hp, hn⟩ := leadOk_parts h
  rw [leadT_yes h]
  exact (fl_of_ok hp).2 _ (leadAt_lt hn)
theorem fInv_pos {c : Int} (h1 : 1 ≤ c) (h2 : c ≤ 100) : 1 ≤ fInv c := by
  have hb := fInv_bd c
  rcases Int.lt_or_le 0 (fInv c) with h | h
  · omega
  · have h0 : fInv c = 0 := by omega
    have := fMul_inv (b := c) ⟨by omega, h2⟩ (by omega)
    rw [h0, fMul_in (by omega) (by omega) (by omega) h2] at this
    omega
theorem sprT_good {l : T} {b : M} (h : l.m.ok = true ∧ 1 ≤ l.c ∧ l.c ≤ 100) (hd : l.m.dvd b = true) : (sprT l b).m.ok = true ∧ 1 ≤ (sprT l b).c ∧ (sprT l b).c ≤ 100 := by
  refine ⟨?_, fInv_pos h.2.1 h.2.2, (fInv_bd _).2⟩
  show ((M.over b l.m).1).ok = true
  rw [M.over, if_pos hd]
  obtain ⟨h1, h2, h3⟩ := M.dvd_iff hd
  have k1 := M.ok_iff.1 h1
  have k2 := M.ok_iff.1 h2
  refine M.ok_iff.2 ?_
  simp only [M.diff]
  omega
theorem spr_good {o : Int} {n : Nat} {f : Nat → T} {m : Nat} {g : Nat → T} (h : sprOk o n f m g = true) :
    ((sprU o n f m g).m.ok = true ∧ 1 ≤ (sprU o n f m g).c ∧ (sprU o n f m g).c ≤ 100) ∧ ((sprV o n f m g).m.ok = true ∧ 1 ≤ (sprV o n f m g).c ∧ (sprV o n f m g).c ≤ 100) := by
  have h' := h
  unfold sprOk at h'
  rw [Bool.and_eq_true] at h'
  have ga := lead_good h'.1
  have gb := lead_good h'.2
  obtain ⟨d1, d2, _⟩ := M.both_facts ga.1 gb.1 (rfl : M.both (leadT o n f).m (leadT o m g).m = sprB o n f m g)
  unfold sprU sprV
  rw [if_pos h, if_pos h]
  exact ⟨sprT_good ga d1, sprT_good gb d2⟩
theorem sum_over {l b : M} (hd : l.dvd b = true) : M.mul (M.over b l).1 l = (b, true) := by
  rw [M.over, if_pos hd]
  obtain ⟨h1, h2, h3⟩ := M.dvd_iff hd
  have k1 := M.ok_iff.1 h1
  have k2 := M.ok_iff.1 h2
  have hok : (b.diff l).ok = true := by
    refine M.ok_iff.2 ?_
    simp only [M.diff]
    omega
  have hs : (b.diff l).sum l = b := by
    cases b; cases l
    simp only [M.diff, M.sum, M.mk.injEq]
    omega
  unfold M.mul
  rw [hs, if_pos ⟨hok, h1, h2⟩]
theorem mx_two (a b : Int) : mx a b - a = 0 ∨ mx a b - b = 0 := by unfold mx; split <;> omega
/-- what is true of the two terms of a pair. -/
theorem spr_law {o : Int} {n : Nat} {f : Nat → T} {m : Nat} {g : Nat → T} (h : sprOk o n f m g = true) :
    M.mul (sprU o n f m g).m (leadT o n f).m = (sprB o n f m g, true) ∧ M.mul (sprV o n f m g).m (leadT o m g).m = (sprB o n f m g, true) ∧ fMul (sprU o n f m g).c (leadT o n f).c = 1 ∧ fMul (sprV o n f m g).c (leadT o m g).c = 1 ∧
    ((sprU o n f m g).m.x = 0 ∨ (sprV o n f m g).m.x = 0) ∧ ((sprU o n f m g).m.y = 0 ∨ (sprV o n f m g).m.y = 0) ∧ ((sprU o n f m g).m.d = 0 ∨ (sprV o n f m g).m.d = 0) ∧ ((sprU o n f m g).m.e = 0 ∨ (sprV o n f m g).m.e = 0) := by
  have h' := h
  unfold sprOk at h'
  rw [Bool.and_eq_true] at h'
  have ga := lead_good h'.1
  have gb := lead_good h'.2
  obtain ⟨d1, d2, _⟩ := M.both_facts ga.1 gb.1 (rfl : M.both (leadT o n f).m (leadT o m g).m = sprB o n f m g)
  have d1 : (leadT o n f).m.dvd (sprB o n f m g) = true := d1
  have d2 : (leadT o m g).m.dvd (sprB o n f m g) = true := d2
  unfold sprU sprV
  rw [if_pos h, if_pos h]
  refine ⟨sum_over d1, sum_over d2, fMul_inv ⟨by omega, ga.2.2⟩ (by omega), fMul_inv ⟨by omega, gb.2.2⟩ (by omega), ?_⟩
  have e1 : (sprT (leadT o n f) (sprB o n f m g)).m = (sprB o n f m g).diff (leadT o n f).m := by show (M.over _ _).1 = _; rw [M.over, if_pos d1]
  have e2 : (sprT (leadT o m g) (sprB o n f m g)).m = (sprB o n f m g).diff (leadT o m g).m := by show (M.over _ _).1 = _; rw [M.over, if_pos d2]
  rw [e1, e2]
  unfold sprB
  rw [M.both, if_pos ⟨ga.1, gb.1⟩]
  exact ⟨mx_two _ _, mx_two _ _, mx_two _ _, mx_two _ _⟩
end Go.Proofs.YtmlaedpamobmhaaGreat
namespace Go.Proofs.YtmlaedpamobmhaaGreat
open Go.RowKit Go.Deep Go.Joins
set_option linter.unusedVariables false

theorem one_ok {t : T} (h : t.m.ok = true ∧ 1 ≤ t.c ∧ t.c ≤ 100) : okL [t] = true :=
  okL_of (by simp) ⟨List.pairwise_singleton _ _, fun s hs => by simp at hs; subst hs; exact h⟩
/-- one term times an operator, less another one times another one. -/
def diffV (u v : T) (f : Nat → T) (n : Nat) (g : Nat → T) (m : Nat) : List T × Bool :=
  if (wylMul (lf [u]) 1 f n).2 = true ∧ (wylMul (lf [v]) 1 g m).2 = true then polSub (lf (wylMul (lf [u]) 1 f n).1) (wylMul (lf [u]) 1 f n).1.length (lf (wylMul (lf [v]) 1 g m).1) (wylMul (lf [v]) 1 g m).1.length else ([], false)
theorem diffV_len (u v : T) (f : Nat → T) (n : Nat) (g : Nat → T) (m : Nat) : (diffV u v f n g m).1.length ≤ 400 := by
  unfold diffV
  split
  · exact polSub_len _ _ _ _
  · simp
def sprPoly (o : Int) (f : Nat → T) (n : Nat) (g : Nat → T) (m : Nat) : List T × Bool :=
  if sprOk o n f m g = true then diffV (sprU o n f m g) (sprV o n f m g) f n g m else ([], false)
theorem sprPoly_len (o : Int) (f : Nat → T) (n : Nat) (g : Nat → T) (m : Nat) : (sprPoly o f n g m).1.length ≤ 400 := by
  unfold sprPoly
  split
  · exact diffV_len _ _ _ _ _ _
  · simp
/-- an operator less a term times another one, as the model takes it. -/
def lessV (L : List T) (t : T) (g : Nat → T) (m : Nat) : List T × Bool :=
  match mulM (lf [t]) g m 1 with
  | none => ([], false)
  | some Y => if (subL L Y).length ≤ 400 then (subL L Y, true) else ([], false)
theorem lessV_len (L : List T) (t : T) (g : Nat → T) (m : Nat) : (lessV L t g m).1.length ≤ 400 := by
  unfold lessV
  split
  · simp
  · split
    · assumption
    · simp
theorem mulM_neg {t : T} (ht : t.m.ok = true ∧ 1 ≤ t.c ∧ t.c ≤ 100) {g : Nat → T} {m : Nat} (hg : Good g m) : mulM (lf [⟨101 - t.c, t.m⟩]) g m 1 = (mulM (lf [t]) g m 1).map (scL 100) := by
  refine mulM_sc (by omega) (by omega) (f := lf [t]) (la := 1) (fun i hi => ?_) hg (fun i hi => ?_) 1 (Nat.le_refl _)
  · obtain rfl : i = 0 := by omega
    exact ⟨ht.1, by show 0 ≤ t.c; omega, ht.2.2⟩
  · obtain rfl : i = 0 := by omega
    show (⟨101 - t.c, t.m⟩ : T) = ⟨100 * t.c % 101, t.m⟩
    congr 1
    omega
theorem less_diff {u v : T} {f : Nat → T} {n : Nat} {g : Nat → T} {m : Nat} (hu : u.m.ok = true ∧ 1 ≤ u.c ∧ u.c ≤ 100) (hv : v.m.ok = true ∧ 1 ≤ v.c ∧ v.c ≤ 100) (hf : polOk n f = true) (hg : polOk m g = true) :
    diffV u v f n g m = match mulM (lf [u]) f n 1 with | none => ([], false) | some X => lessV X v g m := by
  have o1 : polOk 1 (lf [u]) = true := one_ok hu
  have o2 : polOk 1 (lf [v]) = true := one_ok hv
  have e1 : wylMul (lf [u]) 1 f n = mulO (mulM (lf [u]) f n 1) := if_pos ⟨o1, hf⟩
  have e2 : wylMul (lf [v]) 1 g m = mulO (mulM (lf [v]) g m 1) := if_pos ⟨o2, hg⟩
  unfold diffV
  rw [e1, e2]
  cases hX : mulM (lf [u]) f n 1 with
  | none => exact if_neg (by simp [mulO])
  | some X =>
    unfold lessV
    cases hY : mulM (lf [v]) g m 1 with
    | none => exact if_neg (by simp [mulO])
    | some Y =>
      have kX : okL X = true := okL_of (mulM_len _ X hX) (mulM_falls2 (good_ok o1).2 (good_ok hf).2 _ X (Nat.le_refl _) hX)
      have kY : okL Y = true := okL_of (mulM_len _ Y hY) (mulM_falls2 (good_ok o2).2 (good_ok hg).2 _ Y (Nat.le_refl _) hY)
      rw [if_pos (by simp [mulO])]
      show subV X Y = if (subL X Y).length ≤ 400 then (subL X Y, true) else ([], false)
      by_cases hl : (subL X Y).length ≤ 400
      · rw [if_pos hl, subV_ok kX kY hl]
      · rw [if_neg hl]
        rcases subV_case X Y with h | ⟨_, _, h, _⟩
        · exact h
        · exact absurd h hl
set_option maxRecDepth 100000 in
set_option maxHeartbeats 4000000 in
theorem l7LessS (w : World) (pa : Option Addr) (pc : Nat) (L : List T) (t : T) (b : Option Addr) (m cb : Nat) (g : Nat → T) (hp : RL w pa pc L) (hl : L.length ≤ 400) (hL : Falls L) (ht : t.m.ok = true ∧ 1 ≤ t.c ∧ t.c ≤ 100) (hb : Rd w b m cb g) (hg : polOk m g = true) :
    Calls Tryz.prog 95 #[.slice pa L.length pc, .agg #[.int .i64 t.c, .int .i64 t.m.x, .int .i64 t.m.y, .int .i64 t.m.d, .int .i64 t.m.e], .slice b m cb] w fun r w' => ∃ v, r = .returned (.tuple #[v, .bool (lessV L t g m).2]) ∧ Below w.heap.size w w' ∧ w'.ownsRow w.heap.size 54 5 v (lessV L t g m).1.length (cellsL (lessV L t g m).1) := by
  obtain ⟨l2, gg⟩ := good_ok hg
  have HP := Hid.mk' hp
  have HG := Hid.mk' hb
  have HL := Hid.mk' hL
  have hmn := mulM_neg ht gg
  obtain ⟨t0, t1, t2⟩ := ht
  have gs : Good (lf [(⟨101 - t.c, t.m⟩ : T)]) 1 := fun i hi => by
    obtain rfl : i = 0 := by omega
    exact ⟨t0, by show 0 ≤ 101 - t.c; omega, by show 101 - t.c ≤ 100; omega⟩
  have gt : Good (lf [t]) 1 := fun i hi => by
    obtain rfl : i = 0 := by omega
    exact ⟨t0, by show 0 ≤ t.c; omega, t2⟩
  have hcall := fun (W : World) (h : RL W (some ⟨w.heap.size + 1, 0, none⟩) 1 [(⟨101 - t.c, t.m⟩ : T)]) (h' : Rd W b m cb g) => mulS4 W (some ⟨w.heap.size + 1, 0, none⟩) b 1 1 m cb (lf [(⟨101 - t.c, t.m⟩ : T)]) g h h' (by omega) l2 gs gg
  rw [hmn] at hcall
  have HGT := Hid.mk' gt
  have HGG := Hid.mk' gg
  clear hp hb hL gs gt gg hmn
  unfold lessV
  have hrl := one_RL (w.alloc (.cells #[.int .i64 t.c, .int .i64 t.m.x, .int .i64 t.m.y, .int .i64 t.m.d, .int .i64 t.m.e] 54)) (⟨101 - t.c, t.m⟩ : T)
  rw [World.size_alloc] at hrl
  have HRL := Hid.mk' hrl
  have HBL := Hid.mk' (bel_two w (.cells #[.int .i64 t.c, .int .i64 t.m.x, .int .i64 t.m.y, .int .i64 t.m.d, .int .i64 t.m.e] 54) (.cells #[.int .i64 (101 - t.c), .int .i64 t.m.x, .int .i64 t.m.y, .int .i64 t.m.d, .int .i64 t.m.e] 54))
  clear hrl
  cases hY : mulM (lf [t]) g m 1 with
  | none =>
    rw [hY] at hcall
    simp only [Option.map_none, mulO] at hcall
    go_enter Tryz.func95, Tryz.ntmps95
    go_wp2_with fail
    refine (hcall _ HRL.out (HG.out.below HBL.out)).mono ?_
    rintro r w1 ⟨v1, rfl, hb1, ho1⟩
    have HB1 := Hid.mk' (bel_next HBL.out hb1)
    clear hb1 ho1 hcall
    go_wp2
    refine bodyPost_ret (results_tmp2 rfl _ _ _) rfl ?_
    exact ⟨_, rfl, HB1.out.alloc HB1.out.size _, owns_none w1 w.heap.size HB1.out.size⟩
  | some Y =>
    have fY := mulM_falls2 HGT.out HGG.out 1 Y (Nat.le_refl _) hY
    have lY := mulM_len 1 Y hY
    have fS := scL_falls (c := 100) (by omega) (by omega) fY
    have lS := scL_len 100 Y
    have hsl := subL_len L Y
    rw [hY] at hcall
    simp only [Option.map_some, mulO] at hcall
    obtain ⟨Z, hZ⟩ : ∃ Z, scL 100 Y = Z := ⟨_, rfl⟩
    rw [hZ] at hcall fS lS
    have hadd : subL L Y = addL L Z := by rw [← hZ]; rfl
    dsimp only
    rw [hadd] at hsl ⊢
    have lZ : Z.length ≤ 400 := by omega
    have c1 : Hid (∀ i, i < L.length → 0 ≤ (lf L i).c ∧ (lf L i).c ≤ 100) := fun i hi => by have := (fl_lf HL.out).2 i hi; omega
    have c2 : Hid (∀ i, i < Z.length → 0 ≤ (lf Z i).c ∧ (lf Z i).c ≤ 100) := fun i hi => by have := (fl_lf fS).2 i hi; omega
    have HAD : Hid (addT (lf L) L.length (lf Z) Z.length 0 0 = addL L Z) := rfl
    obtain ⟨R, hR⟩ : ∃ R, addL L Z = R := ⟨_, rfl⟩
    rw [hR] at hsl HAD ⊢
    have hRl : R.length ≤ 1000 := by omega
    clear hZ hadd hR fS fY lS hsl
    by_cases hle : R.length ≤ 400
    · have hg4 : ¬ (400 : Int) < (R.length : Int) := by omega
      rw [if_pos hle]
      go_enter Tryz.func95, Tryz.ntmps95
      go_wp2_with fail
      refine (hcall _ HRL.out (HG.out.below HBL.out)).mono ?_
      rintro r w1 ⟨v1, rfl, hb1, ho1⟩
      obtain ⟨a1, k1, rfl, hout⟩ := out_of_owns ho1 (by omega)
      have HB1 := Hid.mk' (bel_next HBL.out hb1)
      have HZ1 := Hid.mk' hout.1
      clear hb1 ho1 hout hcall
      go_wp2_with fail
      refine (l3AddS _ _ _ _ _ _ _ (lf L) (lf Z) (HP.out.below HB1.out) HZ1.out (by omega) c1.out c2.out).mono ?_
      rw [HAD.out]
      rintro r w2 ⟨v2, rfl, hb2, ho2⟩
      have HB2 := Hid.mk' (bel_next HB1.out hb2)
      have HO2 := Hid.mk' (ownsRow_low ho2 HB1.out.size)
      obtain ⟨a2, k2, rfl, hout⟩ := out_of_owns ho2 (by omega)
      clear hb2 ho2 hout
      go_wp2
      refine bodyPost_ret (results_tmp2 rfl _ _ _) rfl ?_
      exact ⟨_, rfl, HB2.out, HO2.out⟩
    · have hg4 : (400 : Int) < (R.length : Int) := by omega
      rw [if_neg hle]
      go_enter Tryz.func95, Tryz.ntmps95
      go_wp2_with fail
      refine (hcall _ HRL.out (HG.out.below HBL.out)).mono ?_
      rintro r w1 ⟨v1, rfl, hb1, ho1⟩
      obtain ⟨a1, k1, rfl, hout⟩ := out_of_owns ho1 (by omega)
      have HB1 := Hid.mk' (bel_next HBL.out hb1)
      have HZ1 := Hid.mk' hout.1
      clear hb1 ho1 hout hcall
      go_wp2_with fail
      refine (l3AddS _ _ _ _ _ _ _ (lf L) (lf Z) (HP.out.below HB1.out) HZ1.out (by omega) c1.out c2.out).mono ?_
      rw [HAD.out]
      rintro r w2 ⟨v2, rfl, hb2, ho2⟩
      have HB2 := Hid.mk' (bel_next HB1.out hb2)
      have HO2 := Hid.mk' (ownsRow_low ho2 HB1.out.size)
      obtain ⟨a2, k2, rfl, hout⟩ := out_of_owns ho2 (by omega)
      clear hb2 ho2 hout
      go_wp2
      refine bodyPost_ret (results_tmp2 rfl _ _ _) rfl ?_
      exact ⟨_, rfl, HB2.out.alloc HB2.out.size _, owns_none w2 w.heap.size HB2.out.size⟩
end Go.Proofs.YtmlaedpamobmhaaGreat
