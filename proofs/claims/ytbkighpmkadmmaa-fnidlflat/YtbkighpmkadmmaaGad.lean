/-
  The four cells of a monomial.
  Monomials that come in, are copied and are held against each other.
  What the helpers of the exact laws do: they copy terms, hold them against each other, write marks into them and look for these.
-/
import Derived.Test.YtbkighpmkadmmaaGaa
import Derived.ProofKit
import Derived.Deep.OwnRows
import Derived.Lib.SmallJoins
import Derived.Test.YtbkighpmkadmmaaGac
namespace Go.Proofs.Ytbkighpmkadmmaa
open Go.RowKit

/-- the four cells of a monomial. -/
def M4 (w : World) (b : Nat) (x y d e : Int) : Prop :=
  w.cell? ⟨b, 0, none⟩ = some (.int .i64 x) ∧ w.cell? ⟨b, 1, none⟩ = some (.int .i64 y) ∧ w.cell? ⟨b, 2, none⟩ = some (.int .i64 d) ∧ w.cell? ⟨b, 3, none⟩ = some (.int .i64 e)
theorem M4.lt {w : World} {b : Nat} {x y d e : Int} (h : M4 w b x y d e) : b < w.heap.size := World.block_lt_of_cell? w _ h.1
theorem M4.below {w w' : World} {b : Nat} {x y d e : Int} (h : M4 w b x y d e) (hb : Below w.heap.size w w') : M4 w' b x y d e :=
  ⟨(hb.cell (p := ⟨b, 0, none⟩) h.lt).trans h.1, (hb.cell (p := ⟨b, 1, none⟩) h.lt).trans h.2.1, (hb.cell (p := ⟨b, 2, none⟩) h.lt).trans h.2.2.1, (hb.cell (p := ⟨b, 3, none⟩) h.lt).trans h.2.2.2⟩
theorem M4.box (w : World) (t : TypeId) (x y d e : Int) : M4 (w.alloc (.cells #[.int .i64 x, .int .i64 y, .int .i64 d, .int .i64 e] t)) w.heap.size x y d e :=
  ⟨by rw [World.cell?_alloc_at _ _ _ _ rfl]; rfl, by rw [World.cell?_alloc_at _ _ _ _ rfl]; rfl, by rw [World.cell?_alloc_at _ _ _ _ rfl]; rfl, by rw [World.cell?_alloc_at _ _ _ _ rfl]; rfl⟩
theorem M4.drew' {w : World} {b : Nat} {x y d e : Int} (h : M4 w b x y d e) : M4 w.drew b x y d e := h.below (Below.refl _ _).drew
theorem s4_drew {w : World} {b : Nat} {x y d e : Int} (h : M4 w b x y d e) : M4 w.drew b x y d e := h.drew'
theorem s4_below {w w' : World} {b : Nat} {x y d e : Int} (hb : Below w.heap.size w w') (h : M4 w b x y d e) : M4 w' b x y d e := h.below hb
theorem M4.grown {w w' : World} {b : Nat} {x y d e : Int} {row : Option Nat} (h : M4 w b x y d e) (hg : w.grownBy w' row) (hne : some b ≠ row) : M4 w' b x y d e := by
  have he := hg.block b h.lt hne
  exact ⟨(World.cell?_of_block (w := w) (a := ⟨b, 0, none⟩) he).trans h.1, (World.cell?_of_block (w := w) (a := ⟨b, 1, none⟩) he).trans h.2.1, (World.cell?_of_block (w := w) (a := ⟨b, 2, none⟩) he).trans h.2.2.1, (World.cell?_of_block (w := w) (a := ⟨b, 3, none⟩) he).trans h.2.2.2⟩
theorem M4.alloc {w : World} {b : Nat} {x y d e : Int} (h : M4 w b x y d e) (o : Obj) : M4 (w.alloc o) b x y d e := h.below ((Below.refl _ _).alloc (Nat.le_refl _) _)
end Go.Proofs.Ytbkighpmkadmmaa
namespace Go.Proofs.Ytbkighpmkadmmaa
open Go.RowKit Go.Deep Go.Joins
set_option linter.unusedVariables false

def M.eqB (a b : M) : Bool := decide (a.x = b.x ∧ a.y = b.y ∧ a.d = b.d ∧ a.e = b.e)
theorem M.eqB_iff {a b : M} : a.eqB b = true ↔ a = b := by
  cases a; cases b; simp [M.eqB]
theorem M.eqB_same (x y d e : Int) : M.eqB ⟨x, y, d, e⟩ ⟨x, y, d, e⟩ = true := by simp [M.eqB]
end Go.Proofs.Ytbkighpmkadmmaa
namespace Go.Proofs.Ytbkighpmkadmmaa
open Go.RowKit
set_option linter.unusedVariables false

theorem bel_s4 {n B o1 o2 o3 o4 : Nat} {a w : World} (h : Below n a w) (hB : n ≤ B) (u1 u2 u3 u4 : Value) : Below n a ((((w.setCell ⟨B, o1, none⟩ u1).setCell ⟨B, o2, none⟩ u2).setCell ⟨B, o3, none⟩ u3).setCell ⟨B, o4, none⟩ u4) :=
  (((h.setCell hB u1).setCell hB u2).setCell hB u3).setCell hB u4
theorem bel_s5 {n B o0 o1 o2 o3 o4 : Nat} {a w : World} (h : Below n a w) (hB : n ≤ B) (u0 u1 u2 u3 u4 : Value) : Below n a (((((w.setCell ⟨B, o0, none⟩ u0).setCell ⟨B, o1, none⟩ u1).setCell ⟨B, o2, none⟩ u2).setCell ⟨B, o3, none⟩ u3).setCell ⟨B, o4, none⟩ u4) :=
  ((((h.setCell hB u0).setCell hB u1).setCell hB u2).setCell hB u3).setCell hB u4

/-- the cells of terms, one behind the other. -/
def cf (f : Nat → T) (j : Nat) : Value := if j % 5 = 0 then .int .i64 (f (j / 5)).c else if j % 5 = 1 then .int .i64 (f (j / 5)).m.x else if j % 5 = 2 then .int .i64 (f (j / 5)).m.y else if j % 5 = 3 then .int .i64 (f (j / 5)).m.d else .int .i64 (f (j / 5)).m.e
theorem cf0 (f : Nat → T) (i : Nat) : cf f (i * 5) = .int .i64 (f i).c := by
  unfold cf; rw [if_pos (by omega), show i * 5 / 5 = i by omega]
theorem cf1 (f : Nat → T) (i : Nat) : cf f (i * 5 + 1) = .int .i64 (f i).m.x := by
  unfold cf; rw [if_neg (by omega), if_pos (by omega), show (i * 5 + 1) / 5 = i by omega]
theorem cf2 (f : Nat → T) (i : Nat) : cf f (i * 5 + 2) = .int .i64 (f i).m.y := by
  unfold cf; rw [if_neg (by omega), if_neg (by omega), if_pos (by omega), show (i * 5 + 2) / 5 = i by omega]
theorem cf3 (f : Nat → T) (i : Nat) : cf f (i * 5 + 3) = .int .i64 (f i).m.d := by
  unfold cf; rw [if_neg (by omega), if_neg (by omega), if_neg (by omega), if_pos (by omega), show (i * 5 + 3) / 5 = i by omega]
theorem cf4 (f : Nat → T) (i : Nat) : cf f (i * 5 + 4) = .int .i64 (f i).m.e := by
  unfold cf; rw [if_neg (by omega), if_neg (by omega), if_neg (by omega), if_neg (by omega), show (i * 5 + 4) / 5 = i by omega]
/-- A block of the call's own that holds n terms: all of it. -/
def Own (w : World) (g n : Nat) (f : Nat → T) : Prop := w.rowIs g 33 (n * 5) (cf f)
theorem Own.cells {w : World} {g n : Nat} {f : Nat → T} (h : Own w g n f) {i : Nat} (hi : i < n) : Cells w g (0 + i * 5) (f i) := by
  rw [Nat.zero_add]
  exact ⟨by rw [h.cell (by omega), cf0], by rw [h.cell (by omega), cf1], by rw [h.cell (by omega), cf2], by rw [h.cell (by omega), cf3], by rw [h.cell (by omega), cf4]⟩
theorem Own.rd {w : World} {g n : Nat} {f : Nat → T} (h : Own w g n f) (hn : n * 40 ≤ 140737488351232) : Rd w (some ⟨g, 0, none⟩) n n f :=
  ⟨Nat.le_refl _, hn, .inr ⟨g, 0, rfl, h.lt, fun i hi => h.cells hi⟩⟩
theorem Own.below {w w' : World} {g n B : Nat} {f : Nat → T} (h : Own w g n f) (hb : Below B w w') (hg : g < B) : Own w' g n f := h.of_block (hb.block g hg)

/-- what a round of copying leaves. -/
def part (f : Nat → T) (k : Nat) (j : Nat) : Value := if j < k * 5 then cf f j else .int .i64 0
theorem part_next {w : World} {g N k : Nat} {f : Nat → T} (h : w.rowIs g 33 N (part f k)) :
    (((((w.setCell ⟨g, k * 5, none⟩ (.int .i64 (f k).c)).setCell ⟨g, k * 5 + 1, none⟩ (.int .i64 (f k).m.x)).setCell ⟨g, k * 5 + 2, none⟩ (.int .i64 (f k).m.y)).setCell ⟨g, k * 5 + 3, none⟩ (.int .i64 (f k).m.d)).setCell ⟨g, k * 5 + 4, none⟩ (.int .i64 (f k).m.e)).rowIs g 33 N (part f (k + 1)) := by
  refine (((((h.set _ _).set _ _).set _ _).set _ _).set _ _).congr fun j hj => ?_
  unfold part
  by_cases h4 : j = k * 5 + 4
  · subst h4; rw [if_pos rfl, if_pos (by omega), cf4]
  rw [if_neg h4]
  by_cases h3 : j = k * 5 + 3
  · subst h3; rw [if_pos rfl, if_pos (by omega), cf3]
  rw [if_neg h3]
  by_cases h2 : j = k * 5 + 2
  · subst h2; rw [if_pos rfl, if_pos (by omega), cf2]
  rw [if_neg h2]
  by_cases h1 : j = k * 5 + 1
  · subst h1; rw [if_pos rfl, if_pos (by omega), cf1]
  rw [if_neg h1]
  by_cases h0 : j = k * 5
  · subst h0; rw [if_pos rfl, if_pos (by omega), cf0]
  rw [if_neg h0]
  by_cases hl : j < k * 5
  · rw [if_pos hl, if_pos (by omega)]
  · rw [if_neg hl, if_neg (by omega)]
theorem infoT : (Try.prog.info? 33).map (fun i => (i.zero, i.size, i.bytes)) = some (some (.agg #[.int .i64 0, .int .i64 0, .int .i64 0, .int .i64 0, .int .i64 0]), 5, 40) := by kernel_rfl
theorem make_terms {ops : Array Oper} {rest : List Oper} {o : Oper} {a : Act} {Q : Exit → Act → World → Prop} (w : World)
    (hg : o.guard = none) (l c : Operand) (hop : o.op = Op.makeSlice 29 l c)
    (n : Nat) (hl : a.eval l = .int .i64 (n : Int)) (hc : a.eval c = .int .i64 (n : Int)) (hbytes : n * 40 ≤ 140737488351232)
    (hK : (w.alloc (.cells (madeCells #[.int .i64 0, .int .i64 0, .int .i64 0, .int .i64 0, .int .i64 0] (n * 5)) 33)).rowIs w.heap.size 33 (n * 5) (fun _ => .int .i64 0) → wpList Try.prog ops Q rest (a.put o.dst (.slice (some ⟨w.heap.size, 0, none⟩) n n)) (w.alloc (.cells (madeCells #[.int .i64 0, .int .i64 0, .int .i64 0, .int .i64 0, .int .i64 0] (n * 5)) 33))) :
    wpList Try.prog ops Q (o :: rest) a w := by
  obtain ⟨i, hi, hzz⟩ := Option.map_eq_some_iff.1 infoT
  simp only [Prod.mk.injEq] at hzz
  obtain ⟨hz, hs, hb⟩ := hzz
  refine wpList_plain hg fun K hK' => ?_
  have hr := run_make (P := Try.prog) w 29 33 i _ Try.underlying29 hi hz .i64 .i64 (n : Int) (n : Int) (by omega) (Int.le_refl _) (by rw [hb]; omega) (by omega)
  simp only [Int.toNat_natCast, hs, Value.cells] at hr
  unfold Oper.wp
  simp [execOp, hop, hl, hc, hr, Result.andThen]
  refine hK' _ _ (hK ?_)
  refine ⟨_, Go.Deep.blk_alloc_new _ _, size_madeCells _ _, fun j hj => ?_⟩
  have h5 : j % 5 = 0 ∨ j % 5 = 1 ∨ j % 5 = 2 ∨ j % 5 = 3 ∨ j % 5 = 4 := by omega
  rcases h5 with h | h | h | h | h <;> simp [madeCells, hj, h]
def T.eqB (a b : T) : Bool := decide (a.c = b.c) && a.m.eqB b.m
theorem T.eqB_iff {a b : T} : a.eqB b = true ↔ a = b := by
  cases a; cases b; simp [T.eqB, M.eqB_iff]
def termsEq (n : Nat) (f : Nat → T) (n' : Nat) (f' : Nat → T) : Bool := decide (n = n' ∧ ∀ i, i < n → (f i).eqB (f' i) = true)

/-- A slice whose terms may be written: its block is a row that nobody has frozen. -/
def Wr (w : World) (a : Option Addr) (n : Nat) (f : Nat → T) : Prop :=
  n = 0 ∨ ∃ g off N F, a = some ⟨g, off, none⟩ ∧ w.rowIs g 33 N F ∧ off + n * 5 ≤ N ∧ ∀ j, j < n * 5 → F (off + j) = cf f j
/-- the marks. -/
def mk (k : Int) (i : Nat) : T := ⟨k + 5 * i, ⟨k + 5 * i + 1, k + 5 * i + 2, k + 5 * i + 3, k + 5 * i + 4⟩⟩
def marked (F : Nat → Value) (k : Int) (off j : Nat) (t : Nat) : Value := if off ≤ t ∧ t < off + j * 5 then cf (mk k) (t - off) else F t
theorem marked_next {w : World} {g N off j : Nat} {F : Nat → Value} {k : Int} (h : w.rowIs g 33 N (marked F k off j)) :
    (((((w.setCell ⟨g, off + j * 5, none⟩ (.int .i64 (k + 5 * j))).setCell ⟨g, off + j * 5 + 1, none⟩ (.int .i64 (k + 5 * j + 1))).setCell ⟨g, off + j * 5 + 2, none⟩ (.int .i64 (k + 5 * j + 2))).setCell ⟨g, off + j * 5 + 3, none⟩ (.int .i64 (k + 5 * j + 3))).setCell ⟨g, off + j * 5 + 4, none⟩ (.int .i64 (k + 5 * j + 4))).rowIs g 33 N (marked F k off (j + 1)) := by
  refine (((((h.set _ _).set _ _).set _ _).set _ _).set _ _).congr fun t ht => ?_
  unfold marked
  by_cases h4 : t = off + j * 5 + 4
  · subst h4; rw [if_pos rfl, if_pos (by omega), show off + j * 5 + 4 - off = j * 5 + 4 by omega, cf4]; rfl
  rw [if_neg h4]
  by_cases h3 : t = off + j * 5 + 3
  · subst h3; rw [if_pos rfl, if_pos (by omega), show off + j * 5 + 3 - off = j * 5 + 3 by omega, cf3]; rfl
  rw [if_neg h3]
  by_cases h2 : t = off + j * 5 + 2
  · subst h2; rw [if_pos rfl, if_pos (by omega), show off + j * 5 + 2 - off = j * 5 + 2 by omega, cf2]; rfl
  rw [if_neg h2]
  by_cases h1 : t = off + j * 5 + 1
  · subst h1; rw [if_pos rfl, if_pos (by omega), show off + j * 5 + 1 - off = j * 5 + 1 by omega, cf1]; rfl
  rw [if_neg h1]
  by_cases h0 : t = off + j * 5
  · subst h0; rw [if_pos rfl, if_pos (by omega), show off + j * 5 - off = j * 5 by omega, cf0]; rfl
  rw [if_neg h0]
  by_cases hl : off ≤ t ∧ t < off + j * 5
  · rw [if_pos hl, if_pos (by omega)]
  · rw [if_neg hl, if_neg (by omega)]
theorem marked_next' {w : World} {g N off j o1 o2 o3 o4 : Nat} {F : Nat → Value} {k v1 v2 v3 v4 : Int} (h : w.rowIs g 33 N (marked F k off j))
    (e1 : o1 = off + j * 5 + 1) (e2 : o2 = off + j * 5 + 2) (e3 : o3 = off + j * 5 + 3) (e4 : o4 = off + j * 5 + 4) (u1 : v1 = k + 5 * j + 1) (u2 : v2 = k + 5 * j + 2) (u3 : v3 = k + 5 * j + 3) (u4 : v4 = k + 5 * j + 4) :
    (((((w.setCell ⟨g, off + j * 5, none⟩ (.int .i64 (k + 5 * j))).setCell ⟨g, o1, none⟩ (.int .i64 v1)).setCell ⟨g, o2, none⟩ (.int .i64 v2)).setCell ⟨g, o3, none⟩ (.int .i64 v3)).setCell ⟨g, o4, none⟩ (.int .i64 v4)).rowIs g 33 N (marked F k off (j + 1)) := by
  subst e1 e2 e3 e4 u1 u2 u3 u4
  exact marked_next h
theorem grown_set {w0 w : World} {g o : Nat} (h : w0.grownBy w (some g)) (u : Value) : w0.grownBy (w.setCell ⟨g, o, none⟩ u) (some g) :=
  ⟨h.os, h.tape, h.output, Nat.le_trans h.size (by simp [World.setCell]), fun k hk hn => (Below.heap_setCell _ _ _ _ (by intro e; exact hn (by rw [e]))).trans (h.block k hk hn)⟩
theorem grown_refl (w : World) (r : Option Nat) : w.grownBy w r := ⟨rfl, rfl, rfl, Nat.le_refl _, fun _ _ _ => rfl⟩
theorem size_set (w : World) (a : Addr) (u : Value) : (w.setCell a u).heap.size = w.heap.size := by simp [World.setCell]
theorem mk_eq (k : Int) (i : Nat) : (mk k i).c = k + 5 * i ∧ (mk k i).m.x = k + 5 * i + 1 ∧ (mk k i).m.y = k + 5 * i + 2 ∧ (mk k i).m.d = k + 5 * i + 3 ∧ (mk k i).m.e = k + 5 * i + 4 := ⟨rfl, rfl, rfl, rfl, rfl⟩
end Go.Proofs.Ytbkighpmkadmmaa
