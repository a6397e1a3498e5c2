/-
  The four cells of a monomial.
  Monomials that come in, are copied and are held against each other.
  What the helpers of the exact laws do: they copy terms, hold them against each other, write marks into them and look for these.
-/
import Derived.Test.YtkcmamepoplcdaaGreatDoorGaa
import Derived.ProofKit
import Derived.Deep.OwnRows
import Derived.Lib.SmallJoins
import Derived.Test.YtkcmamepoplcdaaGreatDoorGac
namespace Go.Proofs.YtkcmamepoplcdaaGreatDoor
open Go.RowKit

/-- the four cells of a monomial. -/
def M4 (w : World) (b : Nat) (x y d e : Int) : Prop :=
  w.cell? ⟨b, 0, none⟩ = some (.int .i64 x) ∧ w.cell? ⟨b, 1, none⟩ = some (.int .i64 y) ∧ w.cell? ⟨b, 2, none⟩ = some (.int .i64 d) ∧ w.cell? ⟨b, 3, none⟩ = some (.int .i64 e)
theorem M4.lt {w : World} {b : Nat} {x y d e : Int} (h : M4 w b x y d e) : b < w.heap.size := World.block_lt_of_cell? w _ h.1
theorem M4.below {w w' : World} {b : Nat} {x y d e : Int} (h : M4 w b x y d e) (hb : Below w.heap.size w w') : M4 w' b x y d e :=
  ⟨(hb.cell (p := ⟨b, 0, none⟩) h.lt).trans h.1, (hb.cell (p := ⟨b, 1, none⟩) h.lt).trans h.2.1, (hb.cell (p := ⟨b, 2, none⟩) h.lt).trans h.2.2.1, (hb.cell (p := ⟨b, 3, none⟩) h.lt).trans h.2.2.2⟩
theorem M4.box (w : World) (t : TypeId) (x y d e : Int) : M4 (w.alloc (.cells #[.int .i64 x, .int .i64 y, .int .i64 d, .int .i64 e] t)) w.heap.size x y d e :=
  ⟨by rw [World.cell?_alloc_at _ _ _ _ rfl]; rfl, by rw [World.cell?_alloc_at _ _ _ _ rfl]; rfl, by rw [World.cell?_alloc_at _ _ _ _ rfl]; rfl, by rw [World.cell?_alloc_at _ _ _ _ rfl]; rfl⟩
theorem M4.drew' {w : World} {b : Nat} {x y d e : Int} (h : M4 w b x y d e) : M4 w.drew b x y d e := h.below (Below.refl _ _).drew
theorem s4_drew {w : World} {b : Nat} {x y d e : Int} (h : M4 w b x y d e) : M4 w.drew b x y d e := h.drew'
theorem s4_below {w w' : World} {b : Nat} {x y d e : Int} (hb : Below w.heap.size w w') (h : M4 w b x y d e) : M4 w' b x y d e := h.below hb
theorem M4.grown {w w' : World} {b : Nat} {x y d e : Int} {row : Option Nat} (h : M4 w b x y d e) (hg : w.grownBy w' row) (hne : some b ≠ row) : M4 w' b x y d e := by
  have he := hg.block b h.lt hne
  exact ⟨(World.cell?_of_block (w := w) (a := ⟨b, 0, none⟩) he).trans h.1, (World.cell?_of_block (w := w) (a := ⟨b, 1, none⟩) he).trans h.2.1, (World.cell?_of_block (w := w) (a := ⟨b, 2, none⟩) he).trans h.2.2.1, (World.cell?_of_block (w := w) (a := ⟨b, 3, none⟩) he).trans h.2.2.2⟩
theorem M4.alloc {w : World} {b : Nat} {x y d e : Int} (h : M4 w b x y d e) (o : Obj) : M4 (w.alloc o) b x y d e := h.below ((Below.refl _ _).alloc (Nat.le_refl _) _)
end Go.Proofs.YtkcmamepoplcdaaGreatDoor
namespace Go.Proofs.YtkcmamepoplcdaaGreatDoor
open Go.RowKit Go.Deep Go.Joins
set_option linter.unusedVariables false

def M.eqB (a b : M) : Bool := decide (a.x = b.x ∧ a.y = b.y ∧ a.d = b.d ∧ a.e = b.e)
theorem M.eqB_iff {a b : M} : a.eqB b = true ↔ a = b := by
  cases a; cases b; simp [M.eqB]
theorem M.eqB_same (x y d e : Int) : M.eqB ⟨x, y, d, e⟩ ⟨x, y, d, e⟩ = true := by simp [M.eqB]
set_option maxHeartbeats 400000 in
theorem eqMon (x y d e x' y' d' e' : Int) (w : World) :
    Calls Tryz.prog 99 #[.agg #[.int .i64 x, .int .i64 y, .int .i64 d, .int .i64 e], .agg #[.int .i64 x', .int .i64 y', .int .i64 d', .int .i64 e']] w fun r w' => r = .returned (.bool (M.eqB ⟨x, y, d, e⟩ ⟨x', y', d', e'⟩)) ∧ Below w.heap.size w w' := by
  cases hx : (x != x')
  · cases hy : (y != y')
    · cases hd : (d != d')
      · cases he : (e != e')
        · have r1 : M.eqB ⟨x, y, d, e⟩ ⟨x', y', d', e'⟩ = true := by simp at hx hy hd he; simp [M.eqB, *]
          rw [r1]
          go_enter Tryz.func99, Tryz.ntmps99
          go_wp2
          go_ret
          exact ⟨rfl, bel_two w _ _⟩
        · have r1 : M.eqB ⟨x, y, d, e⟩ ⟨x', y', d', e'⟩ = false := by simp at he; simp [M.eqB, *]
          rw [r1]
          go_enter Tryz.func99, Tryz.ntmps99
          go_wp2
          go_ret
          exact ⟨rfl, bel_two w _ _⟩
      · have r1 : M.eqB ⟨x, y, d, e⟩ ⟨x', y', d', e'⟩ = false := by simp at hd; simp [M.eqB, *]
        rw [r1]
        go_enter Tryz.func99, Tryz.ntmps99
        go_wp2
        go_ret
        exact ⟨rfl, bel_two w _ _⟩
    · have r1 : M.eqB ⟨x, y, d, e⟩ ⟨x', y', d', e'⟩ = false := by simp at hy; simp [M.eqB, *]
      rw [r1]
      go_enter Tryz.func99, Tryz.ntmps99
      go_wp2
      go_ret
      exact ⟨rfl, bel_two w _ _⟩
  · have r1 : M.eqB ⟨x, y, d, e⟩ ⟨x', y', d', e'⟩ = false := by simp at hx; simp [M.eqB, *]
    rw [r1]
    go_enter Tryz.func99, Tryz.ntmps99
    go_wp2
    go_ret
    exact ⟨rfl, bel_two w _ _⟩
end Go.Proofs.YtkcmamepoplcdaaGreatDoor
namespace Go.Proofs.YtkcmamepoplcdaaGreatDoor
open Go.RowKit
set_option linter.unusedVariables false

theorem bel_s4 {n B o1 o2 o3 o4 : Nat} {a w : World} (h : Below n a w) (hB : n ≤ B) (u1 u2 u3 u4 : Value) : Below n a ((((w.setCell ⟨B, o1, none⟩ u1).setCell ⟨B, o2, none⟩ u2).setCell ⟨B, o3, none⟩ u3).setCell ⟨B, o4, none⟩ u4) :=
  (((h.setCell hB u1).setCell hB u2).setCell hB u3).setCell hB u4
theorem bel_s5 {n B o0 o1 o2 o3 o4 : Nat} {a w : World} (h : Below n a w) (hB : n ≤ B) (u0 u1 u2 u3 u4 : Value) : Below n a (((((w.setCell ⟨B, o0, none⟩ u0).setCell ⟨B, o1, none⟩ u1).setCell ⟨B, o2, none⟩ u2).setCell ⟨B, o3, none⟩ u3).setCell ⟨B, o4, none⟩ u4) :=
  ((((h.setCell hB u0).setCell hB u1).setCell hB u2).setCell hB u3).setCell hB u4

/-- the cells of terms, one behind the other. -/
def cf (f : Nat → T) (j : Nat) : Value := if j % 5 = 0 then .int .i64 (f (j / 5)).c else if j % 5 = 1 then .int .i64 (f (j / 5)).m.x else if j % 5 = 2 then .int .i64 (f (j / 5)).m.y else if j % 5 = 3 then .int .i64 (f (j / 5)).m.d else .int .i64 (f (j / 5)).m.e
theorem cf0 (f : Nat → T) (i : Nat) : cf f (i * 5) = .int .i64 (f i).c := by
  unfold cf; rw [if_pos (by omega), show i * 5 / 5 = i by omega]
theorem cf1 (f : Nat → T) (i : Nat) : cf f (i * 5 + 1) = .int .i64 (f i).m.x := by
  unfold cf; rw [if_neg (by omega), if_pos (by omega), show (i * 5 + 1) / 5 = i by omega]
theorem cf2 (f : Nat → T) (i : Nat) : cf f (i * 5 + 2) = .int .i64 (f i).m.y := by
  unfold cf; rw [if_neg (by omega), if_neg (by omega), if_pos (by omega), show (i * 5 + 2) / 5 = i by omega]
theorem cf3 (f : Nat → T) (i : Nat) : cf f (i * 5 + 3) = .int .i64 (f i).m.d := by
  unfold cf; rw [if_neg (by omega), if_neg (by omega), if_neg (by omega), if_pos (by omega), show (i * 5 + 3) / 5 = i by omega]
theorem cf4 (f : Nat → T) (i : Nat) : cf f (i * 5 + 4) = .int .i64 (f i).m.e := by
  unfold cf; rw [if_neg (by omega), if_neg (by omega), if_neg (by omega), if_neg (by omega), show (i * 5 + 4) / 5 = i by omega]
/-- A block of the call's own that holds n terms: all of it. -/
def Own (w : World) (g n : Nat) (f : Nat → T) : Prop := w.rowIs g 79 (n * 5) (cf f)
theorem Own.cells {w : World} {g n : Nat} {f : Nat → T} (h : Own w g n f) {i : Nat} (hi : i < n) : Cells w g (0 + i * 5) (f i) := by
  rw [Nat.zero_add]
  exact ⟨by rw [h.cell (by omega), cf0], by rw [h.cell (by omega), cf1], by rw [h.cell (by omega), cf2], by rw [h.cell (by omega), cf3], by rw [h.cell (by omega), cf4]⟩
theorem Own.rd {w : World} {g n : Nat} {f : Nat → T} (h : Own w g n f) (hn : n * 40 ≤ 140737488351232) : Rd w (some ⟨g, 0, none⟩) n n f :=
  ⟨Nat.le_refl _, hn, .inr ⟨g, 0, rfl, h.lt, fun i hi => h.cells hi⟩⟩
theorem Own.below {w w' : World} {g n B : Nat} {f : Nat → T} (h : Own w g n f) (hb : Below B w w') (hg : g < B) : Own w' g n f := h.of_block (hb.block g hg)

/-- what a round of copying leaves. -/
def part (f : Nat → T) (k : Nat) (j : Nat) : Value := if j < k * 5 then cf f j else .int .i64 0
theorem part_next {w : World} {g N k : Nat} {f : Nat → T} (h : w.rowIs g 79 N (part f k)) :
    (((((w.setCell ⟨g, k * 5, none⟩ (.int .i64 (f k).c)).setCell ⟨g, k * 5 + 1, none⟩ (.int .i64 (f k).m.x)).setCell ⟨g, k * 5 + 2, none⟩ (.int .i64 (f k).m.y)).setCell ⟨g, k * 5 + 3, none⟩ (.int .i64 (f k).m.d)).setCell ⟨g, k * 5 + 4, none⟩ (.int .i64 (f k).m.e)).rowIs g 79 N (part f (k + 1)) := by
  refine (((((h.set _ _).set _ _).set _ _).set _ _).set _ _).congr fun j hj => ?_
  unfold part
  by_cases h4 : j = k * 5 + 4
  · subst h4; rw [if_pos rfl, if_pos (by omega), cf4]
  rw [if_neg h4]
  by_cases h3 : j = k * 5 + 3
  · subst h3; rw [if_pos rfl, if_pos (by omega), cf3]
  rw [if_neg h3]
  by_cases h2 : j = k * 5 + 2
  · subst h2; rw [if_pos rfl, if_pos (by omega), cf2]
  rw [if_neg h2]
  by_cases h1 : j = k * 5 + 1
  · subst h1; rw [if_pos rfl, if_pos (by omega), cf1]
  rw [if_neg h1]
  by_cases h0 : j = k * 5
  · subst h0; rw [if_pos rfl, if_pos (by omega), cf0]
  rw [if_neg h0]
  by_cases hl : j < k * 5
  · rw [if_pos hl, if_pos (by omega)]
  · rw [if_neg hl, if_neg (by omega)]
theorem infoT : (Tryz.prog.info? 79).map (fun i => (i.zero, i.size, i.bytes)) = some (some (.agg #[.int .i64 0, .int .i64 0, .int .i64 0, .int .i64 0, .int .i64 0]), 5, 40) := by kernel_rfl
theorem make_terms {ops : Array Oper} {rest : List Oper} {o : Oper} {a : Act} {Q : Exit → Act → World → Prop} (w : World)
    (hg : o.guard = none) (l c : Operand) (hop : o.op = Op.makeSlice 22 l c)
    (n : Nat) (hl : a.eval l = .int .i64 (n : Int)) (hc : a.eval c = .int .i64 (n : Int)) (hbytes : n * 40 ≤ 140737488351232)
    (hK : (w.alloc (.cells (madeCells #[.int .i64 0, .int .i64 0, .int .i64 0, .int .i64 0, .int .i64 0] (n * 5)) 79)).rowIs w.heap.size 79 (n * 5) (fun _ => .int .i64 0) → wpList Tryz.prog ops Q rest (a.put o.dst (.slice (some ⟨w.heap.size, 0, none⟩) n n)) (w.alloc (.cells (madeCells #[.int .i64 0, .int .i64 0, .int .i64 0, .int .i64 0, .int .i64 0] (n * 5)) 79))) :
    wpList Tryz.prog ops Q (o :: rest) a w := by
  obtain ⟨i, hi, hzz⟩ := Option.map_eq_some_iff.1 infoT
  simp only [Prod.mk.injEq] at hzz
  obtain ⟨hz, hs, hb⟩ := hzz
  refine wpList_plain hg fun K hK' => ?_
  have hr := run_make (P := Tryz.prog) w 22 79 i _ Tryz.underlying22 hi hz .i64 .i64 (n : Int) (n : Int) (by omega) (Int.le_refl _) (by rw [hb]; omega) (by omega)
  simp only [Int.toNat_natCast, hs, Value.cells] at hr
  unfold Oper.wp
  simp [execOp, hop, hl, hc, hr, Result.andThen]
  refine hK' _ _ (hK ?_)
  refine ⟨_, Go.Deep.blk_alloc_new _ _, size_madeCells _ _, fun j hj => ?_⟩
  have h5 : j % 5 = 0 ∨ j % 5 = 1 ∨ j % 5 = 2 ∨ j % 5 = 3 ∨ j % 5 = 4 := by omega
  rcases h5 with h | h | h | h | h <;> simp [madeCells, hj, h]
def T.eqB (a b : T) : Bool := decide (a.c = b.c) && a.m.eqB b.m
theorem T.eqB_iff {a b : T} : a.eqB b = true ↔ a = b := by
  cases a; cases b; simp [T.eqB, M.eqB_iff]
set_option maxHeartbeats 1000000 in
theorem eqTerm (c x y d e c' x' y' d' e' : Int) (w : World) :
    Calls Tryz.prog 68 #[.agg #[.int .i64 c, .int .i64 x, .int .i64 y, .int .i64 d, .int .i64 e], .agg #[.int .i64 c', .int .i64 x', .int .i64 y', .int .i64 d', .int .i64 e']] w fun r w' => r = .returned (.bool (T.eqB ⟨c, ⟨x, y, d, e⟩⟩ ⟨c', ⟨x', y', d', e'⟩⟩)) ∧ Below w.heap.size w w' := by
  cases hc : (c != c')
  · have r1 : T.eqB ⟨c, ⟨x, y, d, e⟩⟩ ⟨c', ⟨x', y', d', e'⟩⟩ = M.eqB ⟨x, y, d, e⟩ ⟨x', y', d', e'⟩ := by simp at hc; simp [T.eqB, hc]
    rw [r1]
    cases hm : M.eqB ⟨x, y, d, e⟩ ⟨x', y', d', e'⟩
    all_goals
      go_enter Tryz.func68, Tryz.ntmps68
      go_wp2_with fail
      refine (eqMon x y d e x' y' d' e' _).mono ?_
      rw [hm]
      rintro r w1 ⟨rfl, hb⟩
      go_wp2
      go_ret
      exact ⟨rfl, bel_next (bel_two w _ _) hb⟩
  · have r1 : T.eqB ⟨c, ⟨x, y, d, e⟩⟩ ⟨c', ⟨x', y', d', e'⟩⟩ = false := by simp at hc; simp [T.eqB, hc]
    rw [r1]
    go_enter Tryz.func68, Tryz.ntmps68
    go_wp2
    go_ret
    exact ⟨rfl, bel_two w _ _⟩
theorem eqTerm_of {t u : T} {b : Bool} (h : t.eqB u = b) (w : World) :
    Calls Tryz.prog 68 #[.agg #[.int .i64 t.c, .int .i64 t.m.x, .int .i64 t.m.y, .int .i64 t.m.d, .int .i64 t.m.e], .agg #[.int .i64 u.c, .int .i64 u.m.x, .int .i64 u.m.y, .int .i64 u.m.d, .int .i64 u.m.e]] w fun r w' => r = .returned (.bool b) ∧ Below w.heap.size w w' := by
  rw [← h]; exact eqTerm _ _ _ _ _ _ _ _ _ _ w
def termsEq (n : Nat) (f : Nat → T) (n' : Nat) (f' : Nat → T) : Bool := decide (n = n' ∧ ∀ i, i < n → (f i).eqB (f' i) = true)
set_option maxHeartbeats 4000000 in
theorem eqTerms (w : World) (a a' : Option Addr) (n cap n' cap' : Nat) (f f' : Nat → T) (h : Rd w a n cap f) (h' : Rd w a' n' cap' f') :
    Calls Tryz.prog 38 #[.slice a n cap, .slice a' n' cap'] w fun r w' => r = .returned (.bool (termsEq n f n' f')) ∧ Below w.heap.size w w' := by
  obtain ⟨h1, h2, h3⟩ := h
  obtain ⟨h1', h2', h3'⟩ := h'
  have hn : (n : Int) ≤ 140737488351232 := by omega
  have hn' : (n' : Int) ≤ 140737488351232 := by omega
  by_cases hnn : n = n'
  · subst hnn
    go_enter Tryz.func38, Tryz.ntmps38
    go_wp2
    go_loopw [5] (fun i wr => ∃ k : Nat, k ≤ n ∧ i = .int .i64 k ∧ Below w.heap.size w wr ∧ ∀ j, j < k → (f j).eqB (f' j) = true) (fun i _ => n - (intOf i).toNat)
    case atStart => exact ⟨0, Nat.zero_le _, rfl, Below.refl _ _, fun j hj => absurd hj (Nat.not_lt_zero _)⟩
    case round =>
      obtain ⟨k, hk, rfl, hB, hok⟩ := hrel
      by_cases hlt : k < n
      · rcases h3 with h0 | ⟨b, off, rfl, hblt, hcl⟩
        · omega
        rcases h3' with h0 | ⟨b', off', rfl, hblt', hcl'⟩
        · omega
        have hkn : (k : Int) < (n : Int) := by omega
        have hbr : b < wr.heap.size := Nat.lt_of_lt_of_le hblt hB.size
        have hbr' : b' < wr.heap.size := Nat.lt_of_lt_of_le hblt' hB.size
        have ne := Ext.there wr
        have hck := (hcl k hlt).below hB hblt
        have hck' := (hcl' k hlt).below hB hblt'
        have s0 : ∀ u : Ext wr, u.1.cell? ⟨b, off + k * 5, none⟩ = some (.int .i64 (f k).c) := fun u => (u.cell hbr).trans hck.1
        have s1 : ∀ u : Ext wr, u.1.cell? ⟨b, off + k * 5 + 1, none⟩ = some (.int .i64 (f k).m.x) := fun u => (u.cell hbr).trans hck.2.1
        have s2 : ∀ u : Ext wr, u.1.cell? ⟨b, off + k * 5 + 2, none⟩ = some (.int .i64 (f k).m.y) := fun u => (u.cell hbr).trans hck.2.2.1
        have s3 : ∀ u : Ext wr, u.1.cell? ⟨b, off + k * 5 + 3, none⟩ = some (.int .i64 (f k).m.d) := fun u => (u.cell hbr).trans hck.2.2.2.1
        have s4 : ∀ u : Ext wr, u.1.cell? ⟨b, off + k * 5 + 4, none⟩ = some (.int .i64 (f k).m.e) := fun u => (u.cell hbr).trans hck.2.2.2.2
        have t0 : ∀ u : Ext wr, u.1.cell? ⟨b', off' + k * 5, none⟩ = some (.int .i64 (f' k).c) := fun u => (u.cell hbr').trans hck'.1
        have t1 : ∀ u : Ext wr, u.1.cell? ⟨b', off' + k * 5 + 1, none⟩ = some (.int .i64 (f' k).m.x) := fun u => (u.cell hbr').trans hck'.2.1
        have t2 : ∀ u : Ext wr, u.1.cell? ⟨b', off' + k * 5 + 2, none⟩ = some (.int .i64 (f' k).m.y) := fun u => (u.cell hbr').trans hck'.2.2.1
        have t3 : ∀ u : Ext wr, u.1.cell? ⟨b', off' + k * 5 + 3, none⟩ = some (.int .i64 (f' k).m.d) := fun u => (u.cell hbr').trans hck'.2.2.2.1
        have t4 : ∀ u : Ext wr, u.1.cell? ⟨b', off' + k * 5 + 4, none⟩ = some (.int .i64 (f' k).m.e) := fun u => (u.cell hbr').trans hck'.2.2.2.2
        clear hck hck' hcl hcl'
        cases he : (f k).eqB (f' k)
        · have HF : Hid (termsEq n f n f' = false) := by
            show termsEq n f n f' = false
            simp only [termsEq, decide_eq_false_iff_not]
            intro hh
            have := hh.2 k hlt
            rw [he] at this
            cases this
          clear hok
          go_wp2_with fail
          refine wp_region_ext (by kernel_rfl) (by kernel_rfl) ?_
          repeat (go_big_quiet_step (first | (go_at_call 68; exact ext_grows (eqTerm_of he _))))
          refine wpQuiet_nil ?_
          rintro _ ⟨u, rfl⟩
          go_wp2
          go_ret
          exact ⟨by rw [HF.out]; rfl, hB.trans (u.2.mono hB.size)⟩
        · have hok' : Hid (∀ j, j < k + 1 → (f j).eqB (f' j) = true) := fun j hj => by
            by_cases hjk : j = k
            · rw [hjk]; exact he
            · exact hok j (by omega)
          clear hok
          go_wp2_with fail
          refine wp_region_ext (by kernel_rfl) (by kernel_rfl) ?_
          repeat (go_big_quiet_step (first | (go_at_call 68; exact ext_grows (eqTerm_of he _))))
          refine wpQuiet_nil ?_
          rintro _ ⟨u, rfl⟩
          go_wp2
          go_roundw
          case rel => exact ⟨k + 1, by omega, by go_num, hB.trans (u.2.mono hB.size), hok'.out⟩
          case measure => simp [intOf]; omega
      · go_wp2
        go_ret
        have hp : termsEq n f n f' = true := by
          simp only [termsEq, decide_eq_true_eq]
          exact ⟨trivial, fun i hi => hok i (by omega)⟩
        exact ⟨by rw [hp]; rfl, hB⟩
  · have hp : termsEq n f n' f' = false := by
      simp only [termsEq, decide_eq_false_iff_not]
      exact fun h => hnn h.1
    rw [hp]
    have hne : ((n : Int) != (n' : Int)) = true := by simp; omega
    go_enter Tryz.func38, Tryz.ntmps38
    go_wp2
    go_ret
    exact ⟨rfl, Below.refl _ _⟩

/-- A slice whose terms may be written: its block is a row that nobody has frozen. -/
def Wr (w : World) (a : Option Addr) (n : Nat) (f : Nat → T) : Prop :=
  n = 0 ∨ ∃ g off N F, a = some ⟨g, off, none⟩ ∧ w.rowIs g 79 N F ∧ off + n * 5 ≤ N ∧ ∀ j, j < n * 5 → F (off + j) = cf f j
/-- the marks. -/
def mk (k : Int) (i : Nat) : T := ⟨k + 5 * i, ⟨k + 5 * i + 1, k + 5 * i + 2, k + 5 * i + 3, k + 5 * i + 4⟩⟩
def marked (F : Nat → Value) (k : Int) (off j : Nat) (t : Nat) : Value := if off ≤ t ∧ t < off + j * 5 then cf (mk k) (t - off) else F t
theorem marked_next {w : World} {g N off j : Nat} {F : Nat → Value} {k : Int} (h : w.rowIs g 79 N (marked F k off j)) :
    (((((w.setCell ⟨g, off + j * 5, none⟩ (.int .i64 (k + 5 * j))).setCell ⟨g, off + j * 5 + 1, none⟩ (.int .i64 (k + 5 * j + 1))).setCell ⟨g, off + j * 5 + 2, none⟩ (.int .i64 (k + 5 * j + 2))).setCell ⟨g, off + j * 5 + 3, none⟩ (.int .i64 (k + 5 * j + 3))).setCell ⟨g, off + j * 5 + 4, none⟩ (.int .i64 (k + 5 * j + 4))).rowIs g 79 N (marked F k off (j + 1)) := by
  refine (((((h.set _ _).set _ _).set _ _).set _ _).set _ _).congr fun t ht => ?_
  unfold marked
  by_cases h4 : t = off + j * 5 + 4
  · subst h4; rw [if_pos rfl, if_pos (by omega), show off + j * 5 + 4 - off = j * 5 + 4 by omega, cf4]; rfl
  rw [if_neg h4]
  by_cases h3 : t = off + j * 5 + 3
  · subst h3; rw [if_pos rfl, if_pos (by omega), show off + j * 5 + 3 - off = j * 5 + 3 by omega, cf3]; rfl
  rw [if_neg h3]
  by_cases h2 : t = off + j * 5 + 2
  · subst h2; rw [if_pos rfl, if_pos (by omega), show off + j * 5 + 2 - off = j * 5 + 2 by omega, cf2]; rfl
  rw [if_neg h2]
  by_cases h1 : t = off + j * 5 + 1
  · subst h1; rw [if_pos rfl, if_pos (by omega), show off + j * 5 + 1 - off = j * 5 + 1 by omega, cf1]; rfl
  rw [if_neg h1]
  by_cases h0 : t = off + j * 5
  · subst h0; rw [if_pos rfl, if_pos (by omega), show off + j * 5 - off = j * 5 by omega, cf0]; rfl
  rw [if_neg h0]
  by_cases hl : off ≤ t ∧ t < off + j * 5
  · rw [if_pos hl, if_pos (by omega)]
  · rw [if_neg hl, if_neg (by omega)]
theorem marked_next' {w : World} {g N off j o1 o2 o3 o4 : Nat} {F : Nat → Value} {k v1 v2 v3 v4 : Int} (h : w.rowIs g 79 N (marked F k off j))
    (e1 : o1 = off + j * 5 + 1) (e2 : o2 = off + j * 5 + 2) (e3 : o3 = off + j * 5 + 3) (e4 : o4 = off + j * 5 + 4) (u1 : v1 = k + 5 * j + 1) (u2 : v2 = k + 5 * j + 2) (u3 : v3 = k + 5 * j + 3) (u4 : v4 = k + 5 * j + 4) :
    (((((w.setCell ⟨g, off + j * 5, none⟩ (.int .i64 (k + 5 * j))).setCell ⟨g, o1, none⟩ (.int .i64 v1)).setCell ⟨g, o2, none⟩ (.int .i64 v2)).setCell ⟨g, o3, none⟩ (.int .i64 v3)).setCell ⟨g, o4, none⟩ (.int .i64 v4)).rowIs g 79 N (marked F k off (j + 1)) := by
  subst e1 e2 e3 e4 u1 u2 u3 u4
  exact marked_next h
theorem grown_set {w0 w : World} {g o : Nat} (h : w0.grownBy w (some g)) (u : Value) : w0.grownBy (w.setCell ⟨g, o, none⟩ u) (some g) :=
  ⟨h.os, h.tape, h.output, Nat.le_trans h.size (by simp [World.setCell]), fun k hk hn => (Below.heap_setCell _ _ _ _ (by intro e; exact hn (by rw [e]))).trans (h.block k hk hn)⟩
theorem grown_refl (w : World) (r : Option Nat) : w.grownBy w r := ⟨rfl, rfl, rfl, Nat.le_refl _, fun _ _ _ => rfl⟩
theorem size_set (w : World) (a : Addr) (u : Value) : (w.setCell a u).heap.size = w.heap.size := by simp [World.setCell]
set_option maxHeartbeats 4000000 in
theorem markTerms (w : World) (a : Option Addr) (n cap : Nat) (f : Nat → T) (k : Int) (h : Wr w a n f) (hn : (n : Int) ≤ 140737488351232) (hk0 : 0 ≤ k) (hk1 : k ≤ 1000000000000000) :
    Calls Tryz.prog 39 #[.slice a n cap, .int .i64 k] w fun r w' => r = .returned (.int .i64 (k + 5 * n)) ∧ w.grownBy w' (a.map (·.block)) ∧ w'.heap.size = w.heap.size ∧ Wr w' a n (mk k) ∧ (n = 0 → w' = w) := by
  by_cases hn0 : n = 0
  · subst hn0
    go_enter Tryz.func39, Tryz.ntmps39
    go_wp2
    go_loopw [1, 5] (fun kk i wr => wr = w ∧ kk = .int .i64 k ∧ i = .int .i64 0) (fun _ _ _ => 0)
    case atStart => exact ⟨rfl, rfl, rfl⟩
    case round =>
      obtain ⟨rfl, rfl, rfl⟩ := hrel
      go_wp2
      go_ret
      exact ⟨ret_int (by simp), grown_refl _ _, rfl, .inl rfl, fun _ => rfl⟩
  · obtain ⟨g, off, N, F, rfl, hR, hN, hF⟩ := h.resolve_left hn0
    clear h
    go_enter Tryz.func39, Tryz.ntmps39
    go_wp2
    go_loopw [1, 5] (fun kk i wr => ∃ j : Nat, j ≤ n ∧ i = .int .i64 j ∧ kk = .int .i64 (k + 5 * j) ∧ w.grownBy wr (some g) ∧ wr.heap.size = w.heap.size ∧ wr.rowIs g 79 N (marked F k off j)) (fun _ i _ => n - (intOf i).toNat)
    case atStart => exact ⟨0, Nat.zero_le _, rfl, by simp, grown_refl _ _, rfl, hR.congr fun t _ => by unfold marked; rw [if_neg (by omega)]⟩
    case round =>
      obtain ⟨j, hj, rfl, rfl, hG, hS, hM⟩ := hrel
      by_cases hlt : j < n
      · have hjn : (j : Int) < (n : Int) := by omega
        have q0 := hM.cell (i := off + j * 5) (by omega)
        have q1 := hM.cell (i := off + j * 5 + 1) (by omega)
        have q2 := hM.cell (i := off + j * 5 + 2) (by omega)
        have q3 := hM.cell (i := off + j * 5 + 3) (by omega)
        have q4 := hM.cell (i := off + j * 5 + 4) (by omega)
        have fz := fun i => hM.frozen i
        have HM := Hid.mk' hM
        have HG := Hid.mk' hG
        have HS := Hid.mk' hS
        clear hM hR hF hG hS
        go_wp2
        go_roundw
        case rel =>
          exact ⟨j + 1, by omega, by go_num, congrArg (Value.int .i64) (by omega), grown_set (grown_set (grown_set (grown_set (grown_set HG.out _) _) _) _) _, by simp only [size_set]; exact HS.out, marked_next' HM.out (by omega) (by omega) (by omega) (by omega) (by omega) (by omega) (by omega) (by omega)⟩
        case measure => simp [intOf]; omega
      · have hjn : j = n := by omega
        subst hjn
        have HM := Hid.mk' hM
        clear hM
        go_wp2
        go_ret
        exact ⟨ret_int rfl, hG, hS, .inr ⟨g, off, N, _, rfl, HM.out, hN, fun t ht => by unfold marked; rw [if_pos (by omega), show off + t - off = t by omega]⟩, fun h0 => absurd h0 hn0⟩
theorem mk_eq (k : Int) (i : Nat) : (mk k i).c = k + 5 * i ∧ (mk k i).m.x = k + 5 * i + 1 ∧ (mk k i).m.y = k + 5 * i + 2 ∧ (mk k i).m.d = k + 5 * i + 3 ∧ (mk k i).m.e = k + 5 * i + 4 := ⟨rfl, rfl, rfl, rfl, rfl⟩
set_option maxHeartbeats 4000000 in
theorem heldTerms (w : World) (a : Option Addr) (n cap : Nat) (k : Int) (h : Rd w a n cap (mk k)) (hk0 : 0 ≤ k) (hk1 : k ≤ 1000000000000000) :
    Calls Tryz.prog 40 #[.slice a n cap, .int .i64 k] w fun r w' => r = .returned (.int .i64 (k + 5 * n)) ∧ w' = w := by
  obtain ⟨h1, h2, h3⟩ := h
  have hn : (n : Int) ≤ 140737488351232 := by omega
  go_enter Tryz.func40, Tryz.ntmps40
  go_wp2
  go_loop [1, 5] (fun kk i => ∃ j : Nat, j ≤ n ∧ i = .int .i64 j ∧ kk = .int .i64 (k + 5 * j)) (fun _ i => n - (intOf i).toNat)
  case atStart => exact ⟨0, Nat.zero_le _, rfl, by simp⟩
  case round =>
    obtain ⟨j, hj, rfl, rfl⟩ := hrel
    by_cases hlt : j < n
    · rcases h3 with h0 | ⟨b, off, rfl, hblt, hcl⟩
      · omega
      have hjn : (j : Int) < (n : Int) := by omega
      obtain ⟨g0, g1, g2, g3, g4⟩ := hcl j hlt
      rw [(mk_eq k j).1] at g0
      rw [(mk_eq k j).2.1] at g1
      rw [(mk_eq k j).2.2.1] at g2
      rw [(mk_eq k j).2.2.2.1] at g3
      rw [(mk_eq k j).2.2.2.2] at g4
      clear hcl
      go_wp2
      go_round
      case rel => exact ⟨j + 1, by omega, by go_num, congrArg (Value.int .i64) (by omega)⟩
      case measure => simp [intOf]; omega
    · have hjn : j = n := by omega
      subst hjn
      go_wp2
      go_ret
      exact ⟨ret_int rfl, rfl⟩
end Go.Proofs.YtkcmamepoplcdaaGreatDoor
