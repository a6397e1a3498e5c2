/-
  The draws of two monomials: some two, and nothing that was there is turned.
  What the laws over monomials lean on: the thing that holds of the program, and monomials in a world that grew.
  Which operators are free of others: the model, and the program's first one that divides.
-/
import Derived.Test.YtbkighpmkadmmaaGaj
import Derived.Test.YtbkighpmkadmmaaGaa
import Derived.Test.YtbkighpmkadmmaaGad
import Derived.Test.YtbkighpmkadmmaaGac
import Derived.Test.YtbkighpmkadmmaaGah
import Derived.Test.YtbkighpmkadmmaaGai
import Derived.Test.YtbkighpmkadmmaaGag
namespace Go.Proofs.Ytbkighpmkadmmaa
open Go.RowKit
set_option linter.unusedVariables false

theorem W4d.below {n g : Nat} {w w' : World} (h : W4d w g) (hb : Below n w w') (hg : g < n) : W4d w' g := by
  obtain ⟨⟨x0, x1, x2, x3, c0, c1, c2, c3⟩, f0, f1, f2, f3⟩ := h
  have he := hb.block g hg
  have fz : ∀ o, w'.frozen? ⟨g, o, none⟩ = w.frozen? ⟨g, o, none⟩ := fun o => World.frozen?_of_block he
  have cz : ∀ o, w'.cell? ⟨g, o, none⟩ = w.cell? ⟨g, o, none⟩ := fun o => World.cell?_of_block he
  exact ⟨⟨x0, x1, x2, x3, (cz 0).trans c0, (cz 1).trans c1, (cz 2).trans c2, (cz 3).trans c3⟩, (fz 0).trans f0, (fz 1).trans f1, (fz 2).trans f2, (fz 3).trans f3⟩
theorem w4_new (w : World) (t : TypeId) : W4d (w.alloc (.cells #[.int .i64 0, .int .i64 0, .int .i64 0, .int .i64 0] t)) w.heap.size :=
  ⟨⟨0, 0, 0, 0, by rw [World.cell?_alloc_at _ _ _ _ rfl]; rfl, by rw [World.cell?_alloc_at _ _ _ _ rfl]; rfl, by rw [World.cell?_alloc_at _ _ _ _ rfl]; rfl, by rw [World.cell?_alloc_at _ _ _ _ rfl]; rfl⟩, by rw [World.frozen?_alloc_at _ _ _ _ rfl], by rw [World.frozen?_alloc_at _ _ _ _ rfl], by rw [World.frozen?_alloc_at _ _ _ _ rfl], by rw [World.frozen?_alloc_at _ _ _ _ rfl]⟩
theorem W4d.far {g b o : Nat} {w : World} {v : Value} (h : W4d w g) (hn : g ≠ b) : W4d (w.setCell ⟨b, o, none⟩ v) g := by
  obtain ⟨⟨x0, x1, x2, x3, c0, c1, c2, c3⟩, f0, f1, f2, f3⟩ := h
  exact ⟨⟨x0, x1, x2, x3, (cell_set_far hn).trans c0, (cell_set_far hn).trans c1, (cell_set_far hn).trans c2, (cell_set_far hn).trans c3⟩, (frozen_set_far hn).trans f0, (frozen_set_far hn).trans f1, (frozen_set_far hn).trans f2, (frozen_set_far hn).trans f3⟩
theorem Beside.drew {B : Nat} {a w : World} (h : Beside B a w) : Beside B a w.drew := h.drewN 1
def C4 (w : World) (g : Nat) (x y d z : Int) : Prop := w.cell? ⟨g, 0, none⟩ = some (.int .i64 x) ∧ w.cell? ⟨g, 1, none⟩ = some (.int .i64 y) ∧ w.cell? ⟨g, 2, none⟩ = some (.int .i64 d) ∧ w.cell? ⟨g, 3, none⟩ = some (.int .i64 z)
theorem C4.same {w w' : World} {g : Nat} {x y d z : Int} (h : C4 w g x y d z) (he : w'.heap[g]? = w.heap[g]?) : C4 w' g x y d z :=
  have cz : ∀ o, w'.cell? ⟨g, o, none⟩ = w.cell? ⟨g, o, none⟩ := fun o => World.cell?_of_block he
  ⟨(cz 0).trans h.1, (cz 1).trans h.2.1, (cz 2).trans h.2.2.1, (cz 3).trans h.2.2.2⟩
theorem C4.lt {w : World} {g : Nat} {x y d z : Int} (h : C4 w g x y d z) : g < w.heap.size := World.block_lt_of_cell? w _ h.1
theorem C4.move {B g : Nat} {w w' : World} {x y d z : Int} (h : C4 w g x y d z) (hb : Beside B w w') (hn : g ≠ B) : C4 w' g x y d z := h.same (hb.block g h.lt hn)
theorem C4.below {n g : Nat} {w w' : World} {x y d z : Int} (h : C4 w g x y d z) (hb : Below n w w') (hg : g < n) : C4 w' g x y d z := h.same (hb.block g hg)
theorem c4_new (w : World) (t : TypeId) (x y d z : Int) : C4 (w.alloc (.cells #[.int .i64 x, .int .i64 y, .int .i64 d, .int .i64 z] t)) w.heap.size x y d z :=
  ⟨by rw [World.cell?_alloc_at _ _ _ _ rfl]; rfl, by rw [World.cell?_alloc_at _ _ _ _ rfl]; rfl, by rw [World.cell?_alloc_at _ _ _ _ rfl]; rfl, by rw [World.cell?_alloc_at _ _ _ _ rfl]; rfl⟩
end Go.Proofs.Ytbkighpmkadmmaa
namespace Go.Proofs.Ytbkighpmkadmmaa
open Go.RowKit
set_option linter.unusedVariables false

theorem M4.ext {w : World} {b : Nat} {x y d e : Int} (h : M4 w b x y d e) : (∀ u : Ext w, u.1.cell? ⟨b, 0, none⟩ = some (.int .i64 x)) ∧ (∀ u : Ext w, u.1.cell? ⟨b, 1, none⟩ = some (.int .i64 y)) ∧ (∀ u : Ext w, u.1.cell? ⟨b, 2, none⟩ = some (.int .i64 d)) ∧ (∀ u : Ext w, u.1.cell? ⟨b, 3, none⟩ = some (.int .i64 e)) :=
  ⟨fun u => (u.cell h.lt).trans h.1, fun u => (u.cell h.lt).trans h.2.1, fun u => (u.cell h.lt).trans h.2.2.1, fun u => (u.cell h.lt).trans h.2.2.2⟩
theorem heOneT (w : World) : Calls Try.prog 19 #[] w fun e w' => e = .returned (.slice (some ⟨w.heap.size, 0, none⟩) 1 1) ∧ w' = w.alloc (.cells #[.int .i64 1, .int .i64 0, .int .i64 0, .int .i64 0, .int .i64 0] 33) := by
  go_enter Try.func19, Try.ntmps19
  go_wp2
  go_ret
  exact ⟨rfl, rfl⟩
theorem heOkT (w : World) : Calls Try.prog 14 #[] w fun e w' => e = .returned (.bool true) ∧ Below w.heap.size w w' := by
  have hb0 : Below w.heap.size w (w.alloc (.cells #[.int .i64 1, .int .i64 0, .int .i64 0, .int .i64 0, .int .i64 0] 33)) := (Below.refl _ _).alloc (Nat.le_refl _) _
  have hr : Rd (w.alloc (.cells #[.int .i64 1, .int .i64 0, .int .i64 0, .int .i64 0, .int .i64 0] 33)) (some ⟨w.heap.size, 0, none⟩) 1 1 (fun _ => ⟨1, 0, 0, 0, 0⟩) := by
    refine ⟨Nat.le_refl _, by omega, .inr ⟨w.heap.size, 0, rfl, by simp, fun i hi => ?_⟩⟩
    obtain rfl : i = 0 := by omega
    exact ⟨by rw [World.cell?_alloc_at _ _ _ _ rfl]; rfl, by rw [World.cell?_alloc_at _ _ _ _ rfl]; rfl, by rw [World.cell?_alloc_at _ _ _ _ rfl]; rfl, by rw [World.cell?_alloc_at _ _ _ _ rfl]; rfl, by rw [World.cell?_alloc_at _ _ _ _ rfl]; rfl⟩
  have hp : polOk 1 (fun _ => ⟨1, 0, 0, 0, 0⟩) = true := by
    simp only [polOk, decide_eq_true_eq]
    refine ⟨by omega, fun i hi => ?_⟩
    obtain rfl : i = 0 := by omega
    decide
  go_enter Try.func14, Try.ntmps14
  go_wp2_with fail
  refine (heOneT _).mono ?_
  rintro e w1 ⟨rfl, rfl⟩
  generalize (w.alloc (.cells #[.int .i64 1, .int .i64 0, .int .i64 0, .int .i64 0, .int .i64 0] 33)) = w1 at hb0 hr ⊢
  go_wp2_with fail
  refine (polOkI _ _ _ _ _ hr).mono ?_
  rw [hp]
  rintro e w2 ⟨rfl, b2⟩
  have bz := hb0.trans (b2.mono hb0.size)
  clear hr hp hb0 b2
  go_wp2
  go_ret
  exact ⟨rfl, bz⟩
theorem monMulI_of {x y d e x' y' d' e' : Int} {m : M} {b : Bool} (h : M.mul ⟨x, y, d, e⟩ ⟨x', y', d', e'⟩ = (m, b)) (w : World) :
    Calls Try.prog 36 #[.agg #[.int .i64 x, .int .i64 y, .int .i64 d, .int .i64 e], .agg #[.int .i64 x', .int .i64 y', .int .i64 d', .int .i64 e']] w fun r w' => r = .returned (.tuple #[.agg #[.int .i64 m.x, .int .i64 m.y, .int .i64 m.d, .int .i64 m.e], .bool b]) ∧ Below w.heap.size w w' := by
  have := monMulI x y d e x' y' d' e' w
  rw [h] at this; exact this
theorem monMulS_of {x y d e x' y' d' e' : Int} {m : M} {b : Bool} (h : M.mul ⟨x, y, d, e⟩ ⟨x', y', d', e'⟩ = (m, b)) (w : World) :
    Calls Try.prog 110 #[.agg #[.int .i64 x, .int .i64 y, .int .i64 d, .int .i64 e], .agg #[.int .i64 x', .int .i64 y', .int .i64 d', .int .i64 e']] w fun r w' => r = .returned (.tuple #[.agg #[.int .i64 m.x, .int .i64 m.y, .int .i64 m.d, .int .i64 m.e], .bool b]) ∧ Below w.heap.size w w' := by
  have := monMulS x y d e x' y' d' e' w
  rw [h] at this; exact this
theorem monOverI_of {x y d e x' y' d' e' : Int} {m : M} {b : Bool} (h : M.over ⟨x, y, d, e⟩ ⟨x', y', d', e'⟩ = (m, b)) (w : World) :
    Calls Try.prog 120 #[.agg #[.int .i64 x, .int .i64 y, .int .i64 d, .int .i64 e], .agg #[.int .i64 x', .int .i64 y', .int .i64 d', .int .i64 e']] w fun r w' => r = .returned (.tuple #[.agg #[.int .i64 m.x, .int .i64 m.y, .int .i64 m.d, .int .i64 m.e], .bool b]) ∧ Below w.heap.size w w' := by
  have := monOverI x y d e x' y' d' e' w
  rw [h] at this; exact this
theorem monOverS_of {x y d e x' y' d' e' : Int} {m : M} {b : Bool} (h : M.over ⟨x, y, d, e⟩ ⟨x', y', d', e'⟩ = (m, b)) (w : World) :
    Calls Try.prog 102 #[.agg #[.int .i64 x, .int .i64 y, .int .i64 d, .int .i64 e], .agg #[.int .i64 x', .int .i64 y', .int .i64 d', .int .i64 e']] w fun r w' => r = .returned (.tuple #[.agg #[.int .i64 m.x, .int .i64 m.y, .int .i64 m.d, .int .i64 m.e], .bool b]) ∧ Below w.heap.size w w' := by
  have := monOverS x y d e x' y' d' e' w
  rw [h] at this; exact this
theorem monBothI_of {x y d e x' y' d' e' : Int} {m : M} (h : M.both ⟨x, y, d, e⟩ ⟨x', y', d', e'⟩ = m) (w : World) :
    Calls Try.prog 35 #[.agg #[.int .i64 x, .int .i64 y, .int .i64 d, .int .i64 e], .agg #[.int .i64 x', .int .i64 y', .int .i64 d', .int .i64 e']] w fun r w' => r = .returned (.agg #[.int .i64 m.x, .int .i64 m.y, .int .i64 m.d, .int .i64 m.e]) ∧ Below w.heap.size w w' := by
  have := monBothI x y d e x' y' d' e' w
  rw [h] at this; exact this
theorem monBothS_of {x y d e x' y' d' e' : Int} {m : M} (h : M.both ⟨x, y, d, e⟩ ⟨x', y', d', e'⟩ = m) (w : World) :
    Calls Try.prog 71 #[.agg #[.int .i64 x, .int .i64 y, .int .i64 d, .int .i64 e], .agg #[.int .i64 x', .int .i64 y', .int .i64 d', .int .i64 e']] w fun r w' => r = .returned (.agg #[.int .i64 m.x, .int .i64 m.y, .int .i64 m.d, .int .i64 m.e]) ∧ Below w.heap.size w w' := by
  have := monBothS x y d e x' y' d' e' w
  rw [h] at this; exact this
theorem monDegS_of {x y d e n : Int} (h : M.deg ⟨x, y, d, e⟩ = n) (w : World) :
    Calls Try.prog 90 #[.agg #[.int .i64 x, .int .i64 y, .int .i64 d, .int .i64 e]] w fun r w' => r = .returned (.int .i64 n) ∧ Below w.heap.size w w' := by
  have := monDegS x y d e w
  rw [h] at this; exact this
theorem M.mul_cases (a b : M) : (M.mul a b = (⟨0, 0, 0, 0⟩, false) ∧ M.mul b a = (⟨0, 0, 0, 0⟩, false)) ∨ (a.ok = true ∧ b.ok = true ∧ (M.sum a b).ok = true ∧ M.mul a b = (⟨a.x + b.x, a.y + b.y, a.d + b.d, a.e + b.e⟩, true) ∧ M.mul b a = (⟨a.x + b.x, a.y + b.y, a.d + b.d, a.e + b.e⟩, true)) := by
  have hc : M.sum b a = M.sum a b := by simp [M.sum, Int.add_comm]
  by_cases h : a.ok = true ∧ b.ok = true ∧ (M.sum a b).ok = true
  · refine .inr ⟨h.1, h.2.1, h.2.2, ?_, ?_⟩
    · rw [M.mul, if_pos h]; rfl
    · rw [M.mul, hc, if_pos ⟨h.2.1, h.1, h.2.2⟩]; rfl
  · refine .inl ⟨?_, ?_⟩
    · rw [M.mul, if_neg h]; rfl
    · rw [M.mul, hc, if_neg (fun k => h ⟨k.2.1, k.1, k.2.2⟩)]; rfl
theorem M.deg_bd {m : M} (h : m.ok = true) : m.deg = m.x + m.y + m.d + m.e ∧ 0 ≤ m.deg ∧ m.deg ≤ 60 := by
  have := M.ok_iff.1 h
  rw [M.deg, if_pos h]
  exact ⟨rfl, by omega, by omega⟩
theorem mx_comm (a b : Int) : mx a b = mx b a := by unfold mx; split <;> split <;> omega
theorem M.both_comm (a b : M) : M.both a b = M.both b a := by
  unfold M.both
  by_cases h : a.ok = true ∧ b.ok = true
  · rw [if_pos h, if_pos h.symm, mx_comm a.x, mx_comm a.y, mx_comm a.d, mx_comm a.e]
  · rw [if_neg h, if_neg (fun k => h k.symm)]
theorem M.dvd_mk {a b : M} (ha : a.ok = true) (hb : b.ok = true) (h : a.x ≤ b.x ∧ a.y ≤ b.y ∧ a.d ≤ b.d ∧ a.e ≤ b.e) : a.dvd b = true := by
  simp [M.dvd, ha, hb, h]
theorem mx_bd {a b l h : Int} (ha : l ≤ a ∧ a ≤ h) (hb : l ≤ b ∧ b ≤ h) : l ≤ mx a b ∧ mx a b ≤ h ∧ a ≤ mx a b ∧ b ≤ mx a b := by unfold mx; split <;> omega
theorem mx_le {a b c : Int} (ha : a ≤ c) (hb : b ≤ c) : mx a b ≤ c := by unfold mx; split <;> omega
theorem M.both_facts {a b p : M} (ha : a.ok = true) (hb : b.ok = true) (hp : M.both a b = p) : a.dvd p = true ∧ b.dvd p = true ∧ (∀ c : M, a.dvd c = true → b.dvd c = true → p.dvd c = true) ∧ M.both a a = a := by
  rw [M.both, if_pos ⟨ha, hb⟩] at hp
  subst hp
  have ka := M.ok_iff.1 ha
  have kb := M.ok_iff.1 hb
  have hx := mx_bd (a := a.x) (b := b.x) (l := 0) (h := 15) (by omega) (by omega)
  have hy := mx_bd (a := a.y) (b := b.y) (l := 0) (h := 15) (by omega) (by omega)
  have hd := mx_bd (a := a.d) (b := b.d) (l := 0) (h := 15) (by omega) (by omega)
  have he := mx_bd (a := a.e) (b := b.e) (l := 0) (h := 15) (by omega) (by omega)
  have hok : M.ok ⟨mx a.x b.x, mx a.y b.y, mx a.d b.d, mx a.e b.e⟩ = true := M.ok_iff.2 (by dsimp only; omega)
  refine ⟨M.dvd_mk ha hok (by dsimp only; omega), M.dvd_mk hb hok (by dsimp only; omega), fun c h1 h2 => ?_, ?_⟩
  · have k1 := M.dvd_iff h1
    have k2 := M.dvd_iff h2
    exact M.dvd_mk hok k1.2.1 ⟨mx_le k1.2.2.1 k2.2.2.1, mx_le k1.2.2.2.1 k2.2.2.2.1, mx_le k1.2.2.2.2.1 k2.2.2.2.2.1, mx_le k1.2.2.2.2.2 k2.2.2.2.2.2⟩
  · rw [M.both, if_pos ⟨ha, ha⟩]
    have : ∀ z : Int, mx z z = z := fun z => by unfold mx; split <;> rfl
    simp only [this]
end Go.Proofs.Ytbkighpmkadmmaa
namespace Go.Proofs.Ytbkighpmkadmmaa
open Go.RowKit Go.Deep Go.Joins
set_option linter.unusedVariables false

/-- a slice in a cell, and a monomial in a box. -/
abbrev L5 (b o B : Nat) (v : Value) (m : M) (u : World) : Prop := u.cell? ⟨b, o, none⟩ = some v ∧ u.cell? ⟨B, 0, none⟩ = some (.int .i64 m.x) ∧ u.cell? ⟨B, 1, none⟩ = some (.int .i64 m.y) ∧ u.cell? ⟨B, 2, none⟩ = some (.int .i64 m.d) ∧ u.cell? ⟨B, 3, none⟩ = some (.int .i64 m.e)
theorem L5.below {b o B : Nat} {v : Value} {m : M} {u u' : World} (h : L5 b o B v m u) (hb : Below u.heap.size u u') : L5 b o B v m u' :=
  have l1 := World.block_lt_of_cell? u ⟨b, o, none⟩ h.1
  have l2 := World.block_lt_of_cell? u ⟨B, 0, none⟩ h.2.1
  ⟨(hb.cell (p := ⟨b, o, none⟩) l1).trans h.1, (hb.cell (p := ⟨B, 0, none⟩) l2).trans h.2.1, (hb.cell (p := ⟨B, 1, none⟩) l2).trans h.2.2.1, (hb.cell (p := ⟨B, 2, none⟩) l2).trans h.2.2.2.1, (hb.cell (p := ⟨B, 3, none⟩) l2).trans h.2.2.2.2⟩
/-- the greatest term of the i-th operator. -/
def ldAt (o : Int) (ln : Nat → Nat) (f : Nat → Nat → T) (i : Nat) : T := f i (leadAt o (f i) (ln i))
def redFree (o : Int) (np : Nat) (p : Nat → T) (n : Nat) (ln : Nat → Nat) (f : Nat → Nat → T) : Bool := decide ((1 ≤ o ∧ o ≤ 3) ∧ polOk np p = true ∧ lstOk n ln f = true ∧ ∀ k, k < np → ∀ i, i < n → M.dvd (ldAt o ln f i).m (p k).m = false)
set_option maxRecDepth 100000 in
set_option maxHeartbeats 4000000 in
theorem l7FindS (w : World) (o : Int) (a : Option Addr) (n cap : Nat) (ad : Nat → Option Addr) (ln cp : Nat → Nat) (f : Nat → Nat → T) (m : M) (h : RdS w a n cap ad ln cp f) (hok : ∀ i, i < n → ln i ≠ 0 ∧ polOk (ln i) (f i) = true) :
    Calls Try.prog 52 #[.int .i64 o, .slice a n cap, .agg #[.int .i64 m.x, .int .i64 m.y, .int .i64 m.d, .int .i64 m.e]] w fun r w' => ∃ z : Int, r = .returned (.int .i64 z) ∧ Below w.heap.size w w' ∧ ((∀ i, i < n → M.dvd (ldAt o ln f i).m m = false) → z = -1) ∧ (∀ i, i < n → M.dvd (ldAt o ln f i).m m = true → 0 ≤ z) := by
  have hn : (n : Int) ≤ 140737488351232 := by have := h.2.1; omega
  have HB0 := Hid.mk' (bel_one w (.cells #[.int .i64 m.x, .int .i64 m.y, .int .i64 m.d, .int .i64 m.e] 31))
  have HM0 := Hid.mk' (M4.box w 31 m.x m.y m.d m.e)
  have HH := Hid.mk' h
  have HO := Hid.mk' hok
  clear h hok
  go_enter Try.func52, Try.ntmps52
  go_wp2
  go_loopw [7] (fun v wr => ∃ i : Nat, i ≤ n ∧ v = .int .i64 (i : Int) ∧ Below w.heap.size w wr ∧ M4 wr w.heap.size m.x m.y m.d m.e ∧ ∀ j, j < i → M.dvd (ldAt o ln f j).m m = false) (fun v _ => n - (intOf v).toNat)
  case atStart => exact ⟨0, Nat.zero_le _, rfl, HB0.out, HM0.out, fun j hj => by omega⟩
  case round =>
    obtain ⟨i, hi, rfl, hB, hM, hJ⟩ := hrel
    have HJ := Hid.mk' hJ
    have HB := Hid.mk' hB
    have HM := Hid.mk' hM
    clear hJ
    by_cases hlt : i < n
    · rcases HH.out.2.2.1 with h0 | ⟨b, off, rfl, hblt, hcl⟩
      · omega
      have hil : (i : Int) < (n : Int) := by omega
      have hbr : b < wr.heap.size := Nat.lt_of_lt_of_le hblt hB.size
      have g0 : wr.cell? ⟨b, off + i, none⟩ = some (.slice (ad i) (ln i) (cp i)) := (hB.cell (p := ⟨b, off + i, none⟩) hblt).trans (hcl i hlt)
      have hS : L5 b (off + i) w.heap.size (.slice (ad i) (ln i) (cp i)) m wr.drew := ⟨g0, hM.1, hM.2.1, hM.2.2.1, hM.2.2.2⟩
      have hoi := HO.out i hlt
      have fl := fl_of_ok hoi.2
      have HK := Hid.mk' ((HH.out.2.2.2 i hlt).below hB)
      obtain ⟨t, ht⟩ : ∃ t, ldAt o ln f i = t := ⟨_, rfl⟩
      have hlead : Calls Try.prog 46 #[.int .i64 o, .slice (ad i) (ln i) (cp i)] wr.drew fun r w' => r = .returned (.agg #[.int .i64 t.c, .int .i64 t.m.x, .int .i64 t.m.y, .int .i64 t.m.d, .int .i64 t.m.e]) ∧ Below wr.drew.heap.size wr.drew w' := by
        have := l3LeadS wr.drew o (ad i) (ln i) (cp i) (f i) (HK.out.below (Below.refl _ _).drew) (by omega) (fun j hj => (fl.2 j hj).1)
        rw [show f i (leadAt o (f i) (ln i)) = t from ht] at this
        exact this
      obtain ⟨bv, hbv⟩ : ∃ bv, M.dvd ⟨t.m.x, t.m.y, t.m.d, t.m.e⟩ ⟨m.x, m.y, m.d, m.e⟩ = bv := ⟨_, rfl⟩
      have HT : Hid (M.dvd (ldAt o ln f i).m m = bv) := by
        show M.dvd (ldAt o ln f i).m m = bv
        rw [ht]
        exact hbv
      have hfield : ∀ W : World, (Instr.field 33 (Value.agg #[.int .i64 t.c, .int .i64 t.m.x, .int .i64 t.m.y, .int .i64 t.m.d, .int .i64 t.m.e]) 1).run Try.prog W = .ok (Value.agg #[.int .i64 t.m.x, .int .i64 t.m.y, .int .i64 t.m.d, .int .i64 t.m.e]) W := fun W => by kernel_rfl
      have HBD := Hid.mk' hB.drew
      have HMD := Hid.mk' hM.drew'
      clear hcl hB hM g0 hoi fl ht hbr
      go_wp2_with fail
      go_region_held3 (fun u => u.cell? ⟨b, off + i, none⟩ = some (.slice (ad i) (ln i) (cp i)) ∧ u.cell? ⟨w.heap.size, 0, none⟩ = some (.int .i64 m.x) ∧ u.cell? ⟨w.heap.size, 1, none⟩ = some (.int .i64 m.y) ∧ u.cell? ⟨w.heap.size, 2, none⟩ = some (.int .i64 m.d) ∧ u.cell? ⟨w.heap.size, 3, none⟩ = some (.int .i64 m.e)) (first | with_reducible exact hS | with_reducible exact L5.below hS b1 | with_reducible exact L5.below (L5.below hS b1) b2) (first | (go_at_call 46; refine hlead.mono ?_; rintro e w1 ⟨rfl, b1⟩) | (go_at_call 86; refine (monDividesS_of hbv _).mono ?_; rintro e w2 ⟨rfl, b2⟩))
      have HBV := Hid.mk' (bel_next (bel_next HBD.out b1) b2)
      have HMV := Hid.mk' ((HMD.out.below b1).below b2)
      clear hS hlead hbv b1 b2 hfield
      cases bv
      · go_wp2
        go_roundw
        case rel => exact ⟨i + 1, by omega, by go_num, HBV.out, HMV.out, fun j hj => by
          by_cases e : j = i
          · rw [e]; exact HT.out
          · exact HJ.out j (by omega)⟩
        case measure => simp [intOf]; omega
      · go_wp2
        go_ret
        exact ⟨(i : Int), rfl, HBV.out, fun hh => absurd (HT.out.symm.trans (hh i hlt)) (by simp), fun _ _ _ => by omega⟩
    · have hnl : ¬ (i : Int) < (n : Int) := by omega
      have hie : i = n := by omega
      subst hie
      go_wp2
      go_ret
      exact ⟨-1, rfl, HB.out, fun _ => rfl, fun j hj hh => by rw [HJ.out j hj] at hh; cases hh⟩
end Go.Proofs.Ytbkighpmkadmmaa
