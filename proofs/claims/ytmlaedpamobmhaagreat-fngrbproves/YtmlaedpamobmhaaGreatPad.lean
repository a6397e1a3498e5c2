/-
  An operator is its numbers: two lists of terms that fall, with the same numbers, are one.
  The four cells of a monomial.
  Monomials that come in, are copied and are held against each other.
-/
import Derived.Test.YtmlaedpamobmhaaGreatPac
import Derived.Test.YtmlaedpamobmhaaGreatPaa
import Derived.ProofKit
import Derived.Deep.OwnRows
import Derived.Lib.SmallJoins
namespace Go.Proofs.YtmlaedpamobmhaaGreat
open Go.RowKit
set_option linter.unusedVariables false

def meqB (a b : M) : Bool := decide (a.x = b.x ∧ a.y = b.y ∧ a.d = b.d ∧ a.e = b.e)
theorem meqB_iff {a b : M} : meqB a b = true ↔ a = b := by cases a; cases b; simp [meqB]
theorem meqB_no {a b : M} : meqB a b = false ↔ a ≠ b := by rw [← Bool.not_eq_true, meqB_iff]
theorem dg16 {p q y z : Int} (hy : 0 ≤ y ∧ y ≤ 15) (hz : 0 ≤ z ∧ z ≤ 15) (h : p * 16 + y = q * 16 + z) : p = q ∧ y = z := by omega
theorem dg64 {p q y z : Int} (hy : 0 ≤ y ∧ y ≤ 65535) (hz : 0 ≤ z ∧ z ≤ 65535) (h : p * 65536 + y = q * 65536 + z) : y = z := by omega
theorem rkD_inj {a b : M} (ha : a.ok = true) (hb : b.ok = true) (h : rkD a = rkD b) : a = b := by
  have ka := M.ok_iff.1 ha
  have kb := M.ok_iff.1 hb
  have la : 0 ≤ rkL a ∧ rkL a ≤ 65535 := by unfold rkL; omega
  have lb : 0 ≤ rkL b ∧ rkL b ≤ 65535 := by unfold rkL; omega
  unfold rkD at h
  have h := dg64 la lb h
  unfold rkL at h
  obtain ⟨h, h1⟩ := dg16 ⟨ka.2.2.1, ka.2.2.2.1⟩ ⟨kb.2.2.1, kb.2.2.2.1⟩ h
  obtain ⟨h, h2⟩ := dg16 ⟨ka.1, ka.2.1⟩ ⟨kb.1, kb.2.1⟩ h
  obtain ⟨h, h3⟩ := dg16 ⟨ka.2.2.2.2.2.2.1, ka.2.2.2.2.2.2.2⟩ ⟨kb.2.2.2.2.2.2.1, kb.2.2.2.2.2.2.2⟩ h
  cases a; cases b
  simp only at h h1 h2 h3
  subst h h1 h2 h3
  rfl
/-- the number of a monomial in a list of terms. -/
def coef : List T → M → Int
  | [], _ => 0
  | t :: r, m => if meqB t.m m = true then t.c else coef r m
/-- the greatest first, each a number of the field that is not 0, and a monomial that is ok. -/
def Falls (L : List T) : Prop := L.Pairwise (fun a b => rkD b.m < rkD a.m) ∧ ∀ t ∈ L, t.m.ok = true ∧ 1 ≤ t.c ∧ t.c ≤ 100
theorem coef_high {m : M} : ∀ {L : List T}, (∀ t ∈ L, rkD t.m < rkD m) → coef L m = 0
  | [], _ => rfl
  | t :: r, h => by
    have h1 := h t (List.mem_cons_self ..)
    rw [coef, if_neg (fun e => by rw [meqB_iff.1 e] at h1; omega)]
    exact coef_high (fun s hs => h s (List.mem_cons_of_mem _ hs))
theorem coef_cons_ne {t : T} {r : List T} {m : M} (h : t.m ≠ m) : coef (t :: r) m = coef r m := by rw [coef, if_neg (fun e => h (meqB_iff.1 e))]
theorem coef_cons_same (t : T) (r : List T) : coef (t :: r) t.m = t.c := by rw [coef, if_pos (meqB_iff.2 rfl)]
theorem Falls.tail {t : T} {r : List T} (h : Falls (t :: r)) : Falls r := ⟨(List.pairwise_cons.1 h.1).2, fun s hs => h.2 s (List.mem_cons_of_mem _ hs)⟩
theorem Falls.head {t : T} {r : List T} (h : Falls (t :: r)) : ∀ s ∈ r, rkD s.m < rkD t.m := (List.pairwise_cons.1 h.1).1
theorem falls_one : ∀ {L K : List T}, Falls L → Falls K → (∀ m, m.ok = true → coef L m = coef K m) → L = K
  | [], [], _, _, _ => rfl
  | [], t :: r, _, hK, h => by
    have h1 := hK.2 t (List.mem_cons_self ..)
    have h2 := h t.m h1.1
    rw [coef_cons_same, coef] at h2
    omega
  | t :: r, [], hL, _, h => by
    have h1 := hL.2 t (List.mem_cons_self ..)
    have h2 := h t.m h1.1
    rw [coef_cons_same, coef] at h2
    omega
  | s :: p, t :: r, hL, hK, h => by
    have hs := hL.2 s (List.mem_cons_self ..)
    have ht := hK.2 t (List.mem_cons_self ..)
    rcases Int.lt_trichotomy (rkD s.m) (rkD t.m) with hlt | heq | hgt
    · have h2 := h t.m ht.1
      rw [coef_cons_same, coef_high (fun u hu => by
        rcases List.mem_cons.1 hu with rfl | hu
        · exact hlt
        · have := hL.head u hu; omega)] at h2
      omega
    · have hm : s.m = t.m := rkD_inj hs.1 ht.1 heq
      have hc : s.c = t.c := by
        have h2 := h s.m hs.1
        rw [coef_cons_same, hm, coef_cons_same] at h2
        exact h2
      have hst : s = t := by cases s; cases t; simp only at hm hc; subst hm hc; rfl
      subst hst
      have hrest : ∀ m, m.ok = true → coef p m = coef r m := fun m hok => by
        by_cases hm2 : s.m = m
        · subst hm2
          rw [coef_high hL.head, coef_high hK.head]
        · have h2 := h m hok
          rw [coef_cons_ne hm2, coef_cons_ne hm2] at h2
          exact h2
      rw [falls_one hL.tail hK.tail hrest]
    · have h2 := h s.m hs.1
      rw [coef_cons_same, coef_high (fun u hu => by
        rcases List.mem_cons.1 hu with rfl | hu
        · exact hgt
        · have := hK.head u hu; omega)] at h2
      omega
end Go.Proofs.YtmlaedpamobmhaaGreat
namespace Go.Proofs.YtmlaedpamobmhaaGreat
open Go.RowKit

/-- the four cells of a monomial. -/
def M4 (w : World) (b : Nat) (x y d e : Int) : Prop :=
  w.cell? ⟨b, 0, none⟩ = some (.int .i64 x) ∧ w.cell? ⟨b, 1, none⟩ = some (.int .i64 y) ∧ w.cell? ⟨b, 2, none⟩ = some (.int .i64 d) ∧ w.cell? ⟨b, 3, none⟩ = some (.int .i64 e)
theorem M4.lt {w : World} {b : Nat} {x y d e : Int} (h : M4 w b x y d e) : b < w.heap.size := World.block_lt_of_cell? w _ h.1
theorem M4.below {w w' : World} {b : Nat} {x y d e : Int} (h : M4 w b x y d e) (hb : Below w.heap.size w w') : M4 w' b x y d e :=
  ⟨(hb.cell (p := ⟨b, 0, none⟩) h.lt).trans h.1, (hb.cell (p := ⟨b, 1, none⟩) h.lt).trans h.2.1, (hb.cell (p := ⟨b, 2, none⟩) h.lt).trans h.2.2.1, (hb.cell (p := ⟨b, 3, none⟩) h.lt).trans h.2.2.2⟩
theorem M4.box (w : World) (t : TypeId) (x y d e : Int) : M4 (w.alloc (.cells #[.int .i64 x, .int .i64 y, .int .i64 d, .int .i64 e] t)) w.heap.size x y d e :=
  ⟨by rw [World.cell?_alloc_at _ _ _ _ rfl]; rfl, by rw [World.cell?_alloc_at _ _ _ _ rfl]; rfl, by rw [World.cell?_alloc_at _ _ _ _ rfl]; rfl, by rw [World.cell?_alloc_at _ _ _ _ rfl]; rfl⟩
theorem M4.drew' {w : World} {b : Nat} {x y d e : Int} (h : M4 w b x y d e) : M4 w.drew b x y d e := h.below (Below.refl _ _).drew
theorem M4.grown {w w' : World} {b : Nat} {x y d e : Int} {row : Option Nat} (h : M4 w b x y d e) (hg : w.grownBy w' row) (hne : some b ≠ row) : M4 w' b x y d e := by
  have he := hg.block b h.lt hne
  exact ⟨(World.cell?_of_block (w := w) (a := ⟨b, 0, none⟩) he).trans h.1, (World.cell?_of_block (w := w) (a := ⟨b, 1, none⟩) he).trans h.2.1, (World.cell?_of_block (w := w) (a := ⟨b, 2, none⟩) he).trans h.2.2.1, (World.cell?_of_block (w := w) (a := ⟨b, 3, none⟩) he).trans h.2.2.2⟩
theorem M4.alloc {w : World} {b : Nat} {x y d e : Int} (h : M4 w b x y d e) (o : Obj) : M4 (w.alloc o) b x y d e := h.below ((Below.refl _ _).alloc (Nat.le_refl _) _)
end Go.Proofs.YtmlaedpamobmhaaGreat
namespace Go.Proofs.YtmlaedpamobmhaaGreat
open Go.RowKit Go.Deep Go.Joins
set_option linter.unusedVariables false

def M.eqB (a b : M) : Bool := decide (a.x = b.x ∧ a.y = b.y ∧ a.d = b.d ∧ a.e = b.e)
end Go.Proofs.YtmlaedpamobmhaaGreat
