/-
  Tops: the most that is counted in a term, and the terms in which just so many are: the program.
-/
import Derived.Test.YtlndccbgbclnhaaGap
import Derived.Test.YtlndccbgbclnhaaGah
import Derived.Deep.RegionHeld3
import Derived.Shelf.Abstract
namespace Go.Proofs.Ytlndccbgbclnhaa
open Go.RowKit
set_option linter.unusedVariables false

def slp (m : M) : Int := m.d + m.e
def dgr (m : M) : Int := m.x + m.y + m.d + m.e
/-- the most that is counted in the first terms; -1 of none. -/
def mostL (q : M → Int) (f : Nat → T) : Nat → Int
  | 0 => -1
  | i + 1 => if mostL q f i < q (f i).m then q (f i).m else mostL q f i
theorem most_max (q : M → Int) (f : Nat → T) (k : Nat) : max (mostL q f k) (q (f k).m) = mostL q f (k + 1) := by
  show _ = if mostL q f k < q (f k).m then q (f k).m else mostL q f k
  split <;> omega
def filMost (q : M → Int) (n : Nat) (f : Nat → T) : Int := if polOk n f = true then mostL q f n else -1
/-- those of the first terms that are wanted. -/
def wantL (p : T → Bool) (f : Nat → T) : Nat → List T
  | 0 => []
  | i + 1 => if p (f i) = true then wantL p f i ++ [f i] else wantL p f i
theorem wantL_len (p : T → Bool) (f : Nat → T) : ∀ i, (wantL p f i).length ≤ i
  | 0 => Nat.le_refl _
  | i + 1 => by
    have := wantL_len p f i
    unfold wantL
    split
    · rw [List.length_append]; simp; omega
    · omega
def filWith (q : M → Int) (v : Int) (f : Nat → T) (n : Nat) : List T := if polOk n f = true then wantL (fun t => q t.m == v) f n else []
theorem polOk_n {n : Nat} {f : Nat → T} (h : polOk n f = true) : n ≤ 400 := by simp only [polOk, decide_eq_true_eq] at h; exact h.1
theorem filWith_len (q : M → Int) (v : Int) (f : Nat → T) (n : Nat) : (filWith q v f n).length ≤ 400 := by
  unfold filWith
  split
  · rename_i h
    exact Nat.le_trans (wantL_len _ f n) (polOk_n h)
  · simp
/-- what a function counts in a monomial that is ok. -/
def Counts (g : Nat) (q : M → Int) : Prop := ∀ (m : M) (W : World), m.ok = true → Calls Try.prog g #[.agg #[.int .i64 m.x, .int .i64 m.y, .int .i64 m.d, .int .i64 m.e]] W fun r w' => r = .returned (.int .i64 (q m)) ∧ Below W.heap.size W w'
set_option maxHeartbeats 400000 in
theorem slopesI (x y d e : Int) (w : World) (h : M.ok ⟨x, y, d, e⟩ = true) :
    Calls Try.prog 66 #[.agg #[.int .i64 x, .int .i64 y, .int .i64 d, .int .i64 e]] w fun r w' => r = .returned (.int .i64 (d + e)) ∧ Below w.heap.size w w' := by
  obtain ⟨x1, x2, y1, y2, d1, d2, e1, e2⟩ := M.ok_iff.1 h
  simp only at x1 x2 y1 y2 d1 d2 e1 e2
  clear h
  go_enter Try.func66, Try.ntmps66
  go_wp2
  go_ret
  exact ⟨rfl, bel_one w _⟩
theorem slopesC : Counts 66 slp := fun m W h => slopesI m.x m.y m.d m.e W h
theorem degreeC : Counts 64 dgr := fun m W h => degreeI m.x m.y m.d m.e W h
set_option maxRecDepth 100000 in
set_option maxHeartbeats 4000000 in
theorem filMostI (w : World) (a : Option Addr) (n cap : Nat) (f : Nat → T) (g : Nat) (q : M → Int) (eg : ∀ args w, (callFunc g args).run Try.prog w = .ok (.enter g args) w) (hC : Counts g q) (h : Rd w a n cap f) :
    Calls Try.prog 63 #[.slice a n cap, .func (.func g) #[] #[]] w fun r w' => r = .returned (.int .i64 (filMost q n f)) ∧ Below w.heap.size w w' := by
  have HA := Hid.mk' h
  have HC := Hid.mk' hC
  have hn : (n : Int) ≤ 140737488351232 := by have := h.2.1; omega
  clear h hC
  cases hp : polOk n f
  · have e1 : filMost q n f = -1 := by simp [filMost, hp]
    rw [e1]
    go_enter Try.func63, Try.ntmps63
    go_wp2_with (go_at_call 39; refine (polOkI _ _ _ _ f HA.out).mono ?_; rw [hp]; rintro r w1 ⟨rfl, hb1⟩; have HB1 := Hid.mk' hb1; clear hb1)
    go_ret
    exact ⟨rfl, HB1.out⟩
  · have e1 : filMost q n f = mostL q f n := by simp [filMost, hp]
    rw [e1]
    have HM := Hid.mk' (polOk_m hp)
    go_enter Try.func63, Try.ntmps63
    go_wp2_with (go_at_call 39; refine (polOkI _ _ _ _ f HA.out).mono ?_; rw [hp]; rintro r w1 ⟨rfl, hb1⟩; have HB1 := Hid.mk' hb1; clear hb1)
    clear hp
    go_loopw [5, 14] (fun v i wr => ∃ k : Nat, k ≤ n ∧ v = .int .i64 (mostL q f k) ∧ i = .int .i64 (k : Int) ∧ Below w.heap.size w wr) (fun _ i _ => n - (intOf i).toNat)
    case atStart => exact ⟨0, Nat.zero_le _, rfl, rfl, HB1.out⟩
    case round =>
      obtain ⟨k, hk, rfl, rfl, hB⟩ := hrel
      by_cases hlt : k < n
      · have hkn : (k : Int) < (n : Int) := by omega
        have hri := HA.out.below hB
        rcases hri.2.2 with h0 | ⟨b, off, hpe, hblt, hcl⟩
        · omega
        obtain ⟨g0, g1, g2, g3, g4⟩ := hcl k hlt
        have HB2 := Hid.mk' (bel_next hB (bel_one wr (.cells #[.int .i64 (f k).c, .int .i64 (f k).m.x, .int .i64 (f k).m.y, .int .i64 (f k).m.d, .int .i64 (f k).m.e] 52)))
        have HCALL := Hid.mk' (HC.out (f k).m (wr.alloc (.cells #[.int .i64 (f k).c, .int .i64 (f k).m.x, .int .i64 (f k).m.y, .int .i64 (f k).m.d, .int .i64 (f k).m.e] 52)) (HM.out k hlt))
        clear hcl hri hB
        subst hpe
        go_wp2_with fail
        refine HCALL.out.mono ?_
        rintro r w4 ⟨rfl, hb4⟩
        have HB4 := Hid.mk' (bel_next HB2.out hb4)
        clear hb4
        go_wp2
        go_roundw
        case rel => exact ⟨k + 1, by omega, by first | rfl | exact congrArg (Value.int IntKind.i64) (most_max q f k), by go_num, HB4.out⟩
        case measure => simp [intOf]; omega
      · obtain rfl : k = n := by omega
        go_wp2
        go_ret
        exact ⟨rfl, hB⟩
theorem boxes_kept {w w1 W' : World} {A B : Value} {tA tB : TypeId} (h1 : Below ((w.alloc (.cells #[A] tA)).alloc (.cells #[B] tB)).heap.size ((w.alloc (.cells #[A] tA)).alloc (.cells #[B] tB)) w1) (hb : Below w1.heap.size w1 W') : W'.cell? ⟨w.heap.size, 0, none⟩ = some A ∧ W'.cell? ⟨w.heap.size + 1, 0, none⟩ = some B := by
  have hs : ((w.alloc (.cells #[A] tA)).alloc (.cells #[B] tB)).heap.size = w.heap.size + 2 := by simp
  have hl : w.heap.size + 2 ≤ w1.heap.size := by rw [← hs]; exact h1.size
  refine ⟨(hb.cell (p := ⟨w.heap.size, 0, none⟩) (show w.heap.size < w1.heap.size by omega)).trans ((h1.cell (p := ⟨w.heap.size, 0, none⟩) (by rw [hs]; show w.heap.size < _; omega)).trans ?_), (hb.cell (p := ⟨w.heap.size + 1, 0, none⟩) (show w.heap.size + 1 < w1.heap.size by omega)).trans ((h1.cell (p := ⟨w.heap.size + 1, 0, none⟩) (by rw [hs]; show w.heap.size + 1 < _; omega)).trans ?_)⟩
  · have : Below (w.alloc (.cells #[A] tA)).heap.size (w.alloc (.cells #[A] tA)) ((w.alloc (.cells #[A] tA)).alloc (.cells #[B] tB)) := (Below.refl _ _).alloc (Nat.le_refl _) _
    refine (this.cell (p := ⟨w.heap.size, 0, none⟩) (by simp)).trans ?_
    rw [World.cell?_alloc_at _ _ _ _ rfl]; rfl
  · have e : w.heap.size + 1 = (w.alloc (.cells #[A] tA)).heap.size := by simp
    rw [e, World.cell?_alloc_at _ _ _ _ rfl]; rfl
def filOrder (n : Nat) (f : Nat → T) : Int := filMost slp n f
def filDegree (n : Nat) (f : Nat → T) : Int := filMost dgr n f
theorem filOrderI (w : World) (a : Option Addr) (n cap : Nat) (f : Nat → T) (h : Rd w a n cap f) :
    Calls Try.prog 26 #[.slice a n cap] w fun r w' => r = .returned (.int .i64 (filOrder n f)) ∧ Below w.heap.size w w' := by
  have hc := filMostI w a n cap f 66 slp (enters_of Try.func66 (by kernel_rfl) rfl) slopesC h
  go_enter Try.func26, Try.ntmps26
  go_wp2_with (go_at_call 63; refine hc.mono ?_; rintro r w1 ⟨rfl, hb1⟩)
  go_ret
  exact ⟨rfl, hb1⟩
theorem filDegreeI (w : World) (a : Option Addr) (n cap : Nat) (f : Nat → T) (h : Rd w a n cap f) :
    Calls Try.prog 24 #[.slice a n cap] w fun r w' => r = .returned (.int .i64 (filDegree n f)) ∧ Below w.heap.size w w' := by
  have hc := filMostI w a n cap f 64 dgr (enters_of Try.func64 (by kernel_rfl) rfl) degreeC h
  go_enter Try.func24, Try.ntmps24
  go_wp2_with (go_at_call 63; refine hc.mono ?_; rintro r w1 ⟨rfl, hb1⟩)
  go_ret
  exact ⟨rfl, hb1⟩
def filSymbol (f : Nat → T) (n : Nat) : List T := filWith slp (filMost slp n f) f n
theorem filSymbol_len (f : Nat → T) (n : Nat) : (filSymbol f n).length ≤ 400 := filWith_len _ _ _ _
def filPart (f : Nat → T) (n : Nat) (v : Int) : List T := filWith dgr v f n
theorem filPart_len (f : Nat → T) (n : Nat) (v : Int) : (filPart f n v).length ≤ 400 := filWith_len _ _ _ _
end Go.Proofs.Ytlndccbgbclnhaa
