/-
  The four cells of a monomial.
  Monomials that come in, are copied and are held against each other.
  What the helpers of the exact laws do: they copy terms, hold them against each other, write marks into them and look for these.
-/
import Derived.Test.YtbkighpmkadmmaaHaa
import Derived.ProofKit
import Derived.Deep.OwnRows
import Derived.Lib.SmallJoins
import Derived.Test.YtbkighpmkadmmaaHac
namespace Go.Proofs.Ytbkighpmkadmmaa
open Go.RowKit

/-- the four cells of a monomial. -/
def M4 (w : World) (b : Nat) (x y d e : Int) : Prop :=
  w.cell? ⟨b, 0, none⟩ = some (.int .i64 x) ∧ w.cell? ⟨b, 1, none⟩ = some (.int .i64 y) ∧ w.cell? ⟨b, 2, none⟩ = some (.int .i64 d) ∧ w.cell? ⟨b, 3, none⟩ = some (.int .i64 e)
theorem M4.lt {w : World} {b : Nat} {x y d e : Int} (h : M4 w b x y d e) : b < w.heap.size := World.block_lt_of_cell? w _ h.1
theorem M4.below {w w' : World} {b : Nat} {x y d e : Int} (h : M4 w b x y d e) (hb : Below w.heap.size w w') : M4 w' b x y d e :=
  ⟨(hb.cell (p := ⟨b, 0, none⟩) h.lt).trans h.1, (hb.cell (p := ⟨b, 1, none⟩) h.lt).trans h.2.1, (hb.cell (p := ⟨b, 2, none⟩) h.lt).trans h.2.2.1, (hb.cell (p := ⟨b, 3, none⟩) h.lt).trans h.2.2.2⟩
theorem M4.box (w : World) (t : TypeId) (x y d e : Int) : M4 (w.alloc (.cells #[.int .i64 x, .int .i64 y, .int .i64 d, .int .i64 e] t)) w.heap.size x y d e :=
  ⟨by rw [World.cell?_alloc_at _ _ _ _ rfl]; rfl, by rw [World.cell?_alloc_at _ _ _ _ rfl]; rfl, by rw [World.cell?_alloc_at _ _ _ _ rfl]; rfl, by rw [World.cell?_alloc_at _ _ _ _ rfl]; rfl⟩
theorem M4.drew' {w : World} {b : Nat} {x y d e : Int} (h : M4 w b x y d e) : M4 w.drew b x y d e := h.below (Below.refl _ _).drew
theorem M4.grown {w w' : World} {b : Nat} {x y d e : Int} {row : Option Nat} (h : M4 w b x y d e) (hg : w.grownBy w' row) (hne : some b ≠ row) : M4 w' b x y d e := by
  have he := hg.block b h.lt hne
  exact ⟨(World.cell?_of_block (w := w) (a := ⟨b, 0, none⟩) he).trans h.1, (World.cell?_of_block (w := w) (a := ⟨b, 1, none⟩) he).trans h.2.1, (World.cell?_of_block (w := w) (a := ⟨b, 2, none⟩) he).trans h.2.2.1, (World.cell?_of_block (w := w) (a := ⟨b, 3, none⟩) he).trans h.2.2.2⟩
theorem M4.alloc {w : World} {b : Nat} {x y d e : Int} (h : M4 w b x y d e) (o : Obj) : M4 (w.alloc o) b x y d e := h.below ((Below.refl _ _).alloc (Nat.le_refl _) _)
end Go.Proofs.Ytbkighpmkadmmaa
namespace Go.Proofs.Ytbkighpmkadmmaa
open Go.RowKit Go.Deep Go.Joins
set_option linter.unusedVariables false

def M.eqB (a b : M) : Bool := decide (a.x = b.x ∧ a.y = b.y ∧ a.d = b.d ∧ a.e = b.e)
theorem M.eqB_iff {a b : M} : a.eqB b = true ↔ a = b := by
  cases a; cases b; simp [M.eqB]
end Go.Proofs.Ytbkighpmkadmmaa
namespace Go.Proofs.Ytbkighpmkadmmaa
open Go.RowKit
set_option linter.unusedVariables false

theorem bel_s5 {n B o0 o1 o2 o3 o4 : Nat} {a w : World} (h : Below n a w) (hB : n ≤ B) (u0 u1 u2 u3 u4 : Value) : Below n a (((((w.setCell ⟨B, o0, none⟩ u0).setCell ⟨B, o1, none⟩ u1).setCell ⟨B, o2, none⟩ u2).setCell ⟨B, o3, none⟩ u3).setCell ⟨B, o4, none⟩ u4) :=
  ((((h.setCell hB u0).setCell hB u1).setCell hB u2).setCell hB u3).setCell hB u4

/-- the cells of terms, one behind the other. -/
def cf (f : Nat → T) (j : Nat) : Value := if j % 5 = 0 then .int .i64 (f (j / 5)).c else if j % 5 = 1 then .int .i64 (f (j / 5)).m.x else if j % 5 = 2 then .int .i64 (f (j / 5)).m.y else if j % 5 = 3 then .int .i64 (f (j / 5)).m.d else .int .i64 (f (j / 5)).m.e
theorem cf0 (f : Nat → T) (i : Nat) : cf f (i * 5) = .int .i64 (f i).c := by
  unfold cf; rw [if_pos (by omega), show i * 5 / 5 = i by omega]
theorem cf1 (f : Nat → T) (i : Nat) : cf f (i * 5 + 1) = .int .i64 (f i).m.x := by
  unfold cf; rw [if_neg (by omega), if_pos (by omega), show (i * 5 + 1) / 5 = i by omega]
theorem cf2 (f : Nat → T) (i : Nat) : cf f (i * 5 + 2) = .int .i64 (f i).m.y := by
  unfold cf; rw [if_neg (by omega), if_neg (by omega), if_pos (by omega), show (i * 5 + 2) / 5 = i by omega]
theorem cf3 (f : Nat → T) (i : Nat) : cf f (i * 5 + 3) = .int .i64 (f i).m.d := by
  unfold cf; rw [if_neg (by omega), if_neg (by omega), if_neg (by omega), if_pos (by omega), show (i * 5 + 3) / 5 = i by omega]
theorem cf4 (f : Nat → T) (i : Nat) : cf f (i * 5 + 4) = .int .i64 (f i).m.e := by
  unfold cf; rw [if_neg (by omega), if_neg (by omega), if_neg (by omega), if_neg (by omega), show (i * 5 + 4) / 5 = i by omega]
theorem infoT : (Try.prog.info? 33).map (fun i => (i.zero, i.size, i.bytes)) = some (some (.agg #[.int .i64 0, .int .i64 0, .int .i64 0, .int .i64 0, .int .i64 0]), 5, 40) := by kernel_rfl
def T.eqB (a b : T) : Bool := decide (a.c = b.c) && a.m.eqB b.m
theorem T.eqB_iff {a b : T} : a.eqB b = true ↔ a = b := by
  cases a; cases b; simp [T.eqB, M.eqB_iff]
def termsEq (n : Nat) (f : Nat → T) (n' : Nat) (f' : Nat → T) : Bool := decide (n = n' ∧ ∀ i, i < n → (f i).eqB (f' i) = true)

/-- A slice whose terms may be written: its block is a row that nobody has frozen. -/
def Wr (w : World) (a : Option Addr) (n : Nat) (f : Nat → T) : Prop :=
  n = 0 ∨ ∃ g off N F, a = some ⟨g, off, none⟩ ∧ w.rowIs g 33 N F ∧ off + n * 5 ≤ N ∧ ∀ j, j < n * 5 → F (off + j) = cf f j
/-- the marks. -/
def mk (k : Int) (i : Nat) : T := ⟨k + 5 * i, ⟨k + 5 * i + 1, k + 5 * i + 2, k + 5 * i + 3, k + 5 * i + 4⟩⟩
end Go.Proofs.Ytbkighpmkadmmaa
