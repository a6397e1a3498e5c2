/-
  What the functions over operators hand back, as lists.
  Tops: the most that is counted in a term, and the terms in which just so many are: the program.
  Tops: the model.
-/
import Derived.Test.YtddfpjjeoojlmaaGal
import Derived.Test.YtddfpjjeoojlmaaGar
import Derived.Test.YtddfpjjeoojlmaaGas
import Derived.Test.YtddfpjjeoojlmaaGak
import Derived.Deep.RegionHeld3
import Derived.Shelf.Abstract
namespace Go.Proofs.Ytddfpjjeoojlmaa
open Go.RowKit
set_option linter.unusedVariables false

/-- an operator and a truth are handed back. -/
def Two2 (w : World) (X : List T × Bool) (e : Ending) (w' : World) : Prop := ∃ a' c', e = .returned (.tuple #[.slice a' X.1.length c', .bool X.2]) ∧ Below w.heap.size w w' ∧ RL w' a' c' X.1
def One1 (w : World) (X : List T) (e : Ending) (w' : World) : Prop := ∃ a' c', e = .returned (.slice a' X.length c') ∧ Below w.heap.size w w' ∧ RL w' a' c' X
def Val (w : World) (v : Value) (e : Ending) (w' : World) : Prop := e = .returned v ∧ Below w.heap.size w w'
theorem rd_congr {w : World} {a : Option Addr} {n cap : Nat} {f g : Nat → T} (h : Rd w a n cap f) (e : ∀ i, i < n → f i = g i) : Rd w a n cap g :=
  ⟨h.1, h.2.1, h.2.2.imp id (fun ⟨b, off, h1, h2, h3⟩ => ⟨b, off, h1, h2, fun i hi => by rw [← e i hi]; exact h3 i hi⟩)⟩
theorem one_RL (w : World) (t : T) : RL (w.alloc (.cells #[.int .i64 t.c, .int .i64 t.m.x, .int .i64 t.m.y, .int .i64 t.m.d, .int .i64 t.m.e] 35)) (some ⟨w.heap.size, 0, none⟩) 1 [t] :=
  rd_congr (n := 1) (g := lf [t]) (rd_one w t) (fun i hi => by
    have h0 : i = 0 := by omega
    subst h0
    rfl)
theorem two_out {w : World} {X : List T × Bool} {e : Ending} {w' : World} (h : ∃ a' cap', e = .returned (.tuple #[.slice a' X.1.length cap', .bool X.2]) ∧ Below w.heap.size w w' ∧ Out w.heap.size w' a' cap' X.1) : Two2 w X e w' := by
  obtain ⟨a', c', h1, h2, h3⟩ := h
  exact ⟨a', c', h1, h2, h3.1⟩
theorem two_owns {w : World} {X : List T × Bool} {e : Ending} {w' : World} (hl : X.1.length ≤ 400) (h : ∃ v, e = .returned (.tuple #[v, .bool X.2]) ∧ Below w.heap.size w w' ∧ w'.ownsRow w.heap.size 35 5 v X.1.length (cellsL X.1)) : Two2 w X e w' := by
  obtain ⟨v, h1, h2, h3⟩ := h
  obtain ⟨a', c', rfl, h4⟩ := out_of_owns h3 (by omega)
  exact ⟨a', c', h1, h2, h4.1⟩
theorem one_owns {w : World} {X : List T} {e : Ending} {w' : World} (hl : X.length ≤ 400) (h : ∃ v, e = .returned v ∧ Below w.heap.size w w' ∧ w'.ownsRow w.heap.size 35 5 v X.length (cellsL X)) : One1 w X e w' := by
  obtain ⟨v, h1, h2, h3⟩ := h
  obtain ⟨a', c', rfl, h4⟩ := out_of_owns h3 (by omega)
  exact ⟨a', c', h1, h2, h4.1⟩
variable {w : World} {a b : Option Addr} {ca cb : Nat} {L K : List T}
theorem addI_L (ha : RL w a ca L) (hb : RL w b cb K) : Calls Try.prog 10 #[.slice a L.length ca, .slice b K.length cb] w (Two2 w (addV L K)) :=
  (polAddI w a b L.length ca K.length cb (lf L) (lf K) ha hb).mono fun _ _ h => two_out h
theorem addS_L (ha : RL w a ca L) (hb : RL w b cb K) : Calls Try.prog 11 #[.slice a L.length ca, .slice b K.length cb] w (Two2 w (addV L K)) :=
  (polAddS w a b L.length ca K.length cb (lf L) (lf K) ha hb).mono fun _ _ h => two_owns (polAdd_len _ _ _ _) h
theorem subI_L (ha : RL w a ca L) (hb : RL w b cb K) : Calls Try.prog 19 #[.slice a L.length ca, .slice b K.length cb] w (Two2 w (subV L K)) :=
  (polSubI w a b L.length ca K.length cb (lf L) (lf K) ha hb).mono fun _ _ h => two_out h
theorem subS_L (ha : RL w a ca L) (hb : RL w b cb K) : Calls Try.prog 20 #[.slice a L.length ca, .slice b K.length cb] w (Two2 w (subV L K)) :=
  (polSubS w a b L.length ca K.length cb (lf L) (lf K) ha hb).mono fun _ _ h => two_owns (polSub_len _ _ _ _) h
theorem scI_L (c : Int) (ha : RL w a ca L) : Calls Try.prog 21 #[.int .i64 c, .slice a L.length ca] w (One1 w (scV c L)) :=
  (polScaleI w c a L.length ca (lf L) ha).mono fun _ _ h => one_owns (polScale_len _ _ _) h
theorem scS_L (c : Int) (ha : RL w a ca L) : Calls Try.prog 23 #[.int .i64 c, .slice a L.length ca] w (One1 w (scV c L)) :=
  (polScaleS w c a L.length ca (lf L) ha).mono fun _ _ h => one_owns (polScale_len _ _ _) h
theorem okI_L (ha : RL w a ca L) : Calls Try.prog 17 #[.slice a L.length ca] w (Val w (.bool (okL L))) := polOkI w a L.length ca (lf L) ha
theorem okS_L (ha : RL w a ca L) : Calls Try.prog 13 #[.slice a L.length ca] w (Val w (.bool (okL L))) := polOkS w a L.length ca (lf L) ha
theorem sameI_L (ha : RL w a ca L) (hb : RL w b cb K) : Calls Try.prog 27 #[.slice a L.length ca, .slice b K.length cb] w (Val w (.bool (sq L K))) := polSameI w a b L.length ca K.length cb (lf L) (lf K) ha hb
theorem sameS_L (ha : RL w a ca L) (hb : RL w b cb K) : Calls Try.prog 28 #[.slice a L.length ca, .slice b K.length cb] w (Val w (.bool (sq L K))) := polSameS w a b L.length ca K.length cb (lf L) (lf K) ha hb
theorem he_L (ha : RL w a ca L) (hb : RL w b cb K) : Calls Try.prog 12 #[.slice a L.length ca, .slice b K.length cb] w (Val w (.bool (sq L K))) := heSameT w a b L.length ca K.length cb (lf L) (lf K) ha hb
def freeL (L : List T) : Bool := polFree L.length (lf L)
theorem freeI_L (ha : RL w a ca L) : Calls Try.prog 30 #[.slice a L.length ca] w (Val w (.bool (freeL L))) := polFreeI w a L.length ca (lf L) ha
theorem freeS_L (ha : RL w a ca L) : Calls Try.prog 31 #[.slice a L.length ca] w (Val w (.bool (freeL L))) := polFreeS w a L.length ca (lf L) ha
set_option maxHeartbeats 1000000 in
theorem heOk_L (w : World) : Calls Try.prog 14 #[] w (Val w (.bool true)) := by
  have h1 : ∀ u : World, Calls Try.prog 44 #[] u fun e w' => e = .returned (.slice (some ⟨u.heap.size, 0, none⟩) 1 1) ∧ Below u.heap.size u w' ∧ RL w' (some ⟨u.heap.size, 0, none⟩) 1 [⟨1, ⟨0, 0, 0, 0⟩⟩] := fun u => by
    go_enter Try.func44, Try.ntmps44
    go_wp2
    go_ret
    exact ⟨rfl, bel_one u _, one_RL u ⟨1, ⟨0, 0, 0, 0⟩⟩⟩
  have h2 : okL [⟨1, ⟨0, 0, 0, 0⟩⟩] = true := by decide
  go_enter Try.func14, Try.ntmps14
  go_wp2_with fail
  refine (h1 _).mono ?_
  rintro e w1 ⟨rfl, hb1, hr1⟩
  have HR1 := Hid.mk' hr1
  have HB1 := Hid.mk' hb1
  clear hr1 hb1
  go_wp2_with fail
  refine (okI_L HR1.out).mono ?_
  rw [h2]
  rintro e w2 ⟨rfl, hb2⟩
  go_wp2
  go_ret
  exact ⟨rfl, bel_next HB1.out hb2⟩
end Go.Proofs.Ytddfpjjeoojlmaa
namespace Go.Proofs.Ytddfpjjeoojlmaa
open Go.RowKit
set_option linter.unusedVariables false

def slp (m : M) : Int := m.d + m.e
def dgr (m : M) : Int := m.x + m.y + m.d + m.e
/-- the most that is counted in the first terms; -1 of none. -/
def mostL (q : M → Int) (f : Nat → T) : Nat → Int
  | 0 => -1
  | i + 1 => if mostL q f i < q (f i).m then q (f i).m else mostL q f i
theorem most_max (q : M → Int) (f : Nat → T) (k : Nat) : max (mostL q f k) (q (f k).m) = mostL q f (k + 1) := by
  show _ = if mostL q f k < q (f k).m then q (f k).m else mostL q f k
  split <;> omega
def filMost (q : M → Int) (n : Nat) (f : Nat → T) : Int := if polOk n f = true then mostL q f n else -1
/-- those of the first terms that are wanted. -/
def wantL (p : T → Bool) (f : Nat → T) : Nat → List T
  | 0 => []
  | i + 1 => if p (f i) = true then wantL p f i ++ [f i] else wantL p f i
theorem wantL_len (p : T → Bool) (f : Nat → T) : ∀ i, (wantL p f i).length ≤ i
  | 0 => Nat.le_refl _
  | i + 1 => by
    have := wantL_len p f i
    unfold wantL
    split
    · rw [List.length_append]; simp; omega
    · omega
def filWith (q : M → Int) (v : Int) (f : Nat → T) (n : Nat) : List T := if polOk n f = true then wantL (fun t => q t.m == v) f n else []
theorem polOk_n {n : Nat} {f : Nat → T} (h : polOk n f = true) : n ≤ 400 := by simp only [polOk, decide_eq_true_eq] at h; exact h.1
theorem filWith_len (q : M → Int) (v : Int) (f : Nat → T) (n : Nat) : (filWith q v f n).length ≤ 400 := by
  unfold filWith
  split
  · rename_i h
    exact Nat.le_trans (wantL_len _ f n) (polOk_n h)
  · simp
/-- what a function counts in a monomial that is ok. -/
def Counts (g : Nat) (q : M → Int) : Prop := ∀ (m : M) (W : World), m.ok = true → Calls Try.prog g #[.agg #[.int .i64 m.x, .int .i64 m.y, .int .i64 m.d, .int .i64 m.e]] W fun r w' => r = .returned (.int .i64 (q m)) ∧ Below W.heap.size W w'
set_option maxHeartbeats 400000 in
theorem slopesI (x y d e : Int) (w : World) (h : M.ok ⟨x, y, d, e⟩ = true) :
    Calls Try.prog 54 #[.agg #[.int .i64 x, .int .i64 y, .int .i64 d, .int .i64 e]] w fun r w' => r = .returned (.int .i64 (d + e)) ∧ Below w.heap.size w w' := by
  obtain ⟨x1, x2, y1, y2, d1, d2, e1, e2⟩ := M.ok_iff.1 h
  simp only at x1 x2 y1 y2 d1 d2 e1 e2
  clear h
  go_enter Try.func54, Try.ntmps54
  go_wp2
  go_ret
  exact ⟨rfl, bel_one w _⟩
theorem slopesC : Counts 54 slp := fun m W h => slopesI m.x m.y m.d m.e W h
theorem degreeC : Counts 56 dgr := fun m W h => degreeI m.x m.y m.d m.e W h
set_option maxRecDepth 100000 in
set_option maxHeartbeats 4000000 in
theorem filMostI (w : World) (a : Option Addr) (n cap : Nat) (f : Nat → T) (g : Nat) (q : M → Int) (eg : ∀ args w, (callFunc g args).run Try.prog w = .ok (.enter g args) w) (hC : Counts g q) (h : Rd w a n cap f) :
    Calls Try.prog 53 #[.slice a n cap, .func (.func g) #[] #[]] w fun r w' => r = .returned (.int .i64 (filMost q n f)) ∧ Below w.heap.size w w' := by
  have HA := Hid.mk' h
  have HC := Hid.mk' hC
  have hn : (n : Int) ≤ 140737488351232 := by have := h.2.1; omega
  clear h hC
  cases hp : polOk n f
  · have e1 : filMost q n f = -1 := by simp [filMost, hp]
    rw [e1]
    go_enter Try.func53, Try.ntmps53
    go_wp2_with (go_at_call 17; refine (polOkI _ _ _ _ f HA.out).mono ?_; rw [hp]; rintro r w1 ⟨rfl, hb1⟩; have HB1 := Hid.mk' hb1; clear hb1)
    go_ret
    exact ⟨rfl, HB1.out⟩
  · have e1 : filMost q n f = mostL q f n := by simp [filMost, hp]
    rw [e1]
    have HM := Hid.mk' (polOk_m hp)
    go_enter Try.func53, Try.ntmps53
    go_wp2_with (go_at_call 17; refine (polOkI _ _ _ _ f HA.out).mono ?_; rw [hp]; rintro r w1 ⟨rfl, hb1⟩; have HB1 := Hid.mk' hb1; clear hb1)
    clear hp
    go_loopw [5, 14] (fun v i wr => ∃ k : Nat, k ≤ n ∧ v = .int .i64 (mostL q f k) ∧ i = .int .i64 (k : Int) ∧ Below w.heap.size w wr) (fun _ i _ => n - (intOf i).toNat)
    case atStart => exact ⟨0, Nat.zero_le _, rfl, rfl, HB1.out⟩
    case round =>
      obtain ⟨k, hk, rfl, rfl, hB⟩ := hrel
      by_cases hlt : k < n
      · have hkn : (k : Int) < (n : Int) := by omega
        have hri := HA.out.below hB
        rcases hri.2.2 with h0 | ⟨b, off, hpe, hblt, hcl⟩
        · omega
        obtain ⟨g0, g1, g2, g3, g4⟩ := hcl k hlt
        have HB2 := Hid.mk' (bel_next hB (bel_one wr (.cells #[.int .i64 (f k).c, .int .i64 (f k).m.x, .int .i64 (f k).m.y, .int .i64 (f k).m.d, .int .i64 (f k).m.e] 35)))
        have HCALL := Hid.mk' (HC.out (f k).m (wr.alloc (.cells #[.int .i64 (f k).c, .int .i64 (f k).m.x, .int .i64 (f k).m.y, .int .i64 (f k).m.d, .int .i64 (f k).m.e] 35)) (HM.out k hlt))
        clear hcl hri hB
        subst hpe
        go_wp2_with fail
        refine HCALL.out.mono ?_
        rintro r w4 ⟨rfl, hb4⟩
        have HB4 := Hid.mk' (bel_next HB2.out hb4)
        clear hb4
        go_wp2
        go_roundw
        case rel => exact ⟨k + 1, by omega, by first | rfl | exact congrArg (Value.int IntKind.i64) (most_max q f k), by go_num, HB4.out⟩
        case measure => simp [intOf]; omega
      · obtain rfl : k = n := by omega
        go_wp2
        go_ret
        exact ⟨rfl, hB⟩
theorem boxes_kept {w w1 W' : World} {A B : Value} {tA tB : TypeId} (h1 : Below ((w.alloc (.cells #[A] tA)).alloc (.cells #[B] tB)).heap.size ((w.alloc (.cells #[A] tA)).alloc (.cells #[B] tB)) w1) (hb : Below w1.heap.size w1 W') : W'.cell? ⟨w.heap.size, 0, none⟩ = some A ∧ W'.cell? ⟨w.heap.size + 1, 0, none⟩ = some B := by
  have hs : ((w.alloc (.cells #[A] tA)).alloc (.cells #[B] tB)).heap.size = w.heap.size + 2 := by simp
  have hl : w.heap.size + 2 ≤ w1.heap.size := by rw [← hs]; exact h1.size
  refine ⟨(hb.cell (p := ⟨w.heap.size, 0, none⟩) (show w.heap.size < w1.heap.size by omega)).trans ((h1.cell (p := ⟨w.heap.size, 0, none⟩) (by rw [hs]; show w.heap.size < _; omega)).trans ?_), (hb.cell (p := ⟨w.heap.size + 1, 0, none⟩) (show w.heap.size + 1 < w1.heap.size by omega)).trans ((h1.cell (p := ⟨w.heap.size + 1, 0, none⟩) (by rw [hs]; show w.heap.size + 1 < _; omega)).trans ?_)⟩
  · have : Below (w.alloc (.cells #[A] tA)).heap.size (w.alloc (.cells #[A] tA)) ((w.alloc (.cells #[A] tA)).alloc (.cells #[B] tB)) := (Below.refl _ _).alloc (Nat.le_refl _) _
    refine (this.cell (p := ⟨w.heap.size, 0, none⟩) (by simp)).trans ?_
    rw [World.cell?_alloc_at _ _ _ _ rfl]; rfl
  · have e : w.heap.size + 1 = (w.alloc (.cells #[A] tA)).heap.size := by simp
    rw [e, World.cell?_alloc_at _ _ _ _ rfl]; rfl
def filOrder (n : Nat) (f : Nat → T) : Int := filMost slp n f
def filDegree (n : Nat) (f : Nat → T) : Int := filMost dgr n f
theorem filOrderI (w : World) (a : Option Addr) (n cap : Nat) (f : Nat → T) (h : Rd w a n cap f) :
    Calls Try.prog 32 #[.slice a n cap] w fun r w' => r = .returned (.int .i64 (filOrder n f)) ∧ Below w.heap.size w w' := by
  have hc := filMostI w a n cap f 54 slp (enters_of Try.func54 (by kernel_rfl) rfl) slopesC h
  go_enter Try.func32, Try.ntmps32
  go_wp2_with (go_at_call 53; refine hc.mono ?_; rintro r w1 ⟨rfl, hb1⟩)
  go_ret
  exact ⟨rfl, hb1⟩
theorem filDegreeI (w : World) (a : Option Addr) (n cap : Nat) (f : Nat → T) (h : Rd w a n cap f) :
    Calls Try.prog 34 #[.slice a n cap] w fun r w' => r = .returned (.int .i64 (filDegree n f)) ∧ Below w.heap.size w w' := by
  have hc := filMostI w a n cap f 56 dgr (enters_of Try.func56 (by kernel_rfl) rfl) degreeC h
  go_enter Try.func34, Try.ntmps34
  go_wp2_with (go_at_call 53; refine hc.mono ?_; rintro r w1 ⟨rfl, hb1⟩)
  go_ret
  exact ⟨rfl, hb1⟩
def filSymbol (f : Nat → T) (n : Nat) : List T := filWith slp (filMost slp n f) f n
theorem filSymbol_len (f : Nat → T) (n : Nat) : (filSymbol f n).length ≤ 400 := filWith_len _ _ _ _
def filPart (f : Nat → T) (n : Nat) (v : Int) : List T := filWith dgr v f n
theorem filPart_len (f : Nat → T) (n : Nat) (v : Int) : (filPart f n v).length ≤ 400 := filWith_len _ _ _ _
end Go.Proofs.Ytddfpjjeoojlmaa
namespace Go.Proofs.Ytddfpjjeoojlmaa
open Go.RowKit
set_option linter.unusedVariables false

theorem mx_if (a b : Int) : mx a b = if a < b then b else a := by unfold mx; split <;> split <;> omega
theorem mostL_succ (q : M → Int) (f : Nat → T) (k : Nat) : mostL q f (k + 1) = mx (mostL q f k) (q (f k).m) := by rw [mx_if]; rfl
theorem ord_deg {a b : M} (h : 0 < M.ord 1 a b) : b.deg ≤ a.deg := by
  unfold M.ord at h
  by_cases he : a.deg = b.deg
  · omega
  · rw [if_pos ⟨rfl, he⟩] at h
    unfold c3 at h
    split at h
    · omega
    · omega
theorem deg_ok {m : M} (h : m.ok = true) : m.deg = dgr m := by simp [M.deg, dgr, h]
theorem most_deg {n : Nat} {f : Nat → T} (hp : polOk n f = true) : ∀ i, i < n → mostL dgr f (i + 1) = dgr (f 0).m ∧ dgr (f i).m ≤ dgr (f 0).m
  | 0, h => by
    have hm := M.ok_iff.1 (polOk_m hp 0 h)
    refine ⟨?_, Int.le_refl _⟩
    show (if (-1 : Int) < dgr (f 0).m then dgr (f 0).m else -1) = _
    rw [if_pos (by unfold dgr; omega)]
  | i + 1, h => by
    obtain ⟨h1, h2⟩ := most_deg hp i (by omega)
    have hm := polOk_m hp
    have ho : okAt f (i + 1) = true := by have hh := hp; simp only [polOk, decide_eq_true_eq] at hh; exact hh.2 (i + 1) h
    simp only [okAt, Bool.and_eq_true, Bool.or_eq_true, decide_eq_true_eq, Nat.add_sub_cancel] at ho
    have h3 := ord_deg (ho.2.resolve_left (by omega))
    rw [deg_ok (hm _ h), deg_ok (hm i (by omega))] at h3
    have h4 : dgr (f (i + 1)).m ≤ dgr (f 0).m := by omega
    refine ⟨?_, h4⟩
    rw [mostL, h1, if_neg (by omega)]
set_option maxRecDepth 100000 in
set_option maxHeartbeats 4000000 in
theorem filOrderS (w : World) (a : Option Addr) (n cap : Nat) (f : Nat → T) (h : Rd w a n cap f) :
    Calls Try.prog 33 #[.slice a n cap] w fun r w' => r = .returned (.int .i64 (filOrder n f)) ∧ Below w.heap.size w w' := by
  have HA := Hid.mk' h
  have hn : (n : Int) ≤ 140737488351232 := by have := h.2.1; omega
  clear h
  cases hp : polOk n f
  · have e1 : filOrder n f = -1 := by simp [filOrder, filMost, hp]
    rw [e1]
    go_enter Try.func33, Try.ntmps33
    go_wp2
    go_loopw [3, 4] (fun v ii wr => v = .int .i64 (-1) ∧ ii = .int .i64 0 ∧ Below w.heap.size w wr) (fun _ _ _ => 0)
    case atStart => exact ⟨rfl, rfl, Below.refl _ _⟩
    case round =>
      obtain ⟨rfl, rfl, hbl⟩ := hrel
      by_cases h0 : n = 0
      · subst h0
        go_wp2
        go_ret
        exact ⟨rfl, hbl⟩
      · have hpos : (0 : Int) < (n : Int) := by omega
        have HBL := Hid.mk' hbl
        clear hbl
        go_wp2_with (go_at_call 13; refine (polOkS _ _ _ _ f (HA.out.below HBL.out)).mono ?_; rw [hp]; rintro r w1 ⟨rfl, hb1⟩; have HB1 := Hid.mk' hb1; clear hb1)
        go_ret
        exact ⟨rfl, bel_next HBL.out HB1.out⟩
  · have e1 : filOrder n f = mostL slp f n := by simp [filOrder, filMost, hp]
    rw [e1]
    have HM := Hid.mk' (polOk_m hp)
    go_enter Try.func33, Try.ntmps33
    go_wp2
    go_loopw [3, 4] (fun v ii wr => ∃ k : Nat, k ≤ n ∧ v = .int .i64 (mostL slp f k) ∧ ii = .int .i64 (k : Int) ∧ Below w.heap.size w wr) (fun _ ii _ => n - (intOf ii).toNat)
    case atStart => exact ⟨0, Nat.zero_le _, rfl, rfl, Below.refl _ _⟩
    case round =>
      obtain ⟨k, hk, rfl, rfl, hbl⟩ := hrel
      by_cases hlt : k < n
      · have hkn : (k : Int) < (n : Int) := by omega
        obtain ⟨_, _, _, _, d1, d2, e1, e2⟩ := M.ok_iff.1 (HM.out k hlt)
        have HBL := Hid.mk' hbl
        clear hbl
        go_wp2_with (go_at_call 13; refine (polOkS _ _ _ _ f (HA.out.below HBL.out)).mono ?_; rw [hp]; rintro r w1 ⟨rfl, hb1⟩; have HB1 := Hid.mk' (bel_next HBL.out hb1); clear hb1)
        have hri := HA.out.below HB1.out
        rcases hri.2.2 with h0 | ⟨b, off, hpe, hblt, hcl⟩
        · omega
        have hck := hcl k hlt
        subst hpe
        have ne := Ext.there w1
        have s3 : ∀ u : Ext w1, u.1.cell? ⟨b, off + k * 5 + 3, none⟩ = some (.int .i64 (f k).m.d) := fun u => (u.cell hblt).trans hck.2.2.2.1
        have s4 : ∀ u : Ext w1, u.1.cell? ⟨b, off + k * 5 + 4, none⟩ = some (.int .i64 (f k).m.e) := fun u => (u.cell hblt).trans hck.2.2.2.2
        have HS := Hid.mk' (mostL_succ slp f k)
        clear hck hcl hri hp
        go_wp2_with fail
        refine wp_region_ext (by kernel_rfl) (by kernel_rfl) ?_
        repeat (go_big_quiet_step ((go_at_call 55; exact ext_same (maxS _ _ _))))
        refine wpQuiet_nil ?_
        rintro _ ⟨u, rfl⟩
        go_wp2
        go_roundw
        case rel => exact ⟨k + 1, by omega, by rw [HS.out]; rfl, by go_num, bel_next HB1.out u.2⟩
        case measure => simp [intOf]; omega
      · obtain rfl : k = n := by omega
        go_wp2
        go_ret
        exact ⟨rfl, hbl⟩
end Go.Proofs.Ytddfpjjeoojlmaa
