/-
  Tops: the most that is counted in a term, and the terms in which just so many are: the program.
  Tops: the model.
  Laws of lists: so many times a sum; the most that is counted in a sum.
-/
import Derived.Test.YtclmaenkoapppaaGap
import Derived.Test.YtclmaenkoapppaaGah
import Derived.Deep.RegionHeld3
import Derived.Shelf.Abstract
namespace Go.Proofs.Ytclmaenkoapppaa
open Go.RowKit
set_option linter.unusedVariables false

def slp (m : M) : Int := m.d + m.e
def dgr (m : M) : Int := m.x + m.y + m.d + m.e
/-- the most that is counted in the first terms; -1 of none. -/
def mostL (q : M → Int) (f : Nat → T) : Nat → Int
  | 0 => -1
  | i + 1 => if mostL q f i < q (f i).m then q (f i).m else mostL q f i
theorem most_max (q : M → Int) (f : Nat → T) (k : Nat) : max (mostL q f k) (q (f k).m) = mostL q f (k + 1) := by
  show _ = if mostL q f k < q (f k).m then q (f k).m else mostL q f k
  split <;> omega
def filMost (q : M → Int) (n : Nat) (f : Nat → T) : Int := if polOk n f = true then mostL q f n else -1
/-- those of the first terms that are wanted. -/
def wantL (p : T → Bool) (f : Nat → T) : Nat → List T
  | 0 => []
  | i + 1 => if p (f i) = true then wantL p f i ++ [f i] else wantL p f i
theorem wantL_len (p : T → Bool) (f : Nat → T) : ∀ i, (wantL p f i).length ≤ i
  | 0 => Nat.le_refl _
  | i + 1 => by
    have := wantL_len p f i
    unfold wantL
    split
    · rw [List.length_append]; simp; omega
    · omega
def filWith (q : M → Int) (v : Int) (f : Nat → T) (n : Nat) : List T := if polOk n f = true then wantL (fun t => q t.m == v) f n else []
theorem polOk_n {n : Nat} {f : Nat → T} (h : polOk n f = true) : n ≤ 400 := by simp only [polOk, decide_eq_true_eq] at h; exact h.1
theorem filWith_len (q : M → Int) (v : Int) (f : Nat → T) (n : Nat) : (filWith q v f n).length ≤ 400 := by
  unfold filWith
  split
  · rename_i h
    exact Nat.le_trans (wantL_len _ f n) (polOk_n h)
  · simp
/-- what a function counts in a monomial that is ok. -/
def Counts (g : Nat) (q : M → Int) : Prop := ∀ (m : M) (W : World), m.ok = true → Calls Try.prog g #[.agg #[.int .i64 m.x, .int .i64 m.y, .int .i64 m.d, .int .i64 m.e]] W fun r w' => r = .returned (.int .i64 (q m)) ∧ Below W.heap.size W w'
set_option maxHeartbeats 400000 in
theorem slopesI (x y d e : Int) (w : World) (h : M.ok ⟨x, y, d, e⟩ = true) :
    Calls Try.prog 48 #[.agg #[.int .i64 x, .int .i64 y, .int .i64 d, .int .i64 e]] w fun r w' => r = .returned (.int .i64 (d + e)) ∧ Below w.heap.size w w' := by
  obtain ⟨x1, x2, y1, y2, d1, d2, e1, e2⟩ := M.ok_iff.1 h
  simp only at x1 x2 y1 y2 d1 d2 e1 e2
  clear h
  go_enter Try.func48, Try.ntmps48
  go_wp2
  go_ret
  exact ⟨rfl, bel_one w _⟩
theorem slopesC : Counts 48 slp := fun m W h => slopesI m.x m.y m.d m.e W h
theorem degreeC : Counts 52 dgr := fun m W h => degreeI m.x m.y m.d m.e W h
set_option maxRecDepth 100000 in
set_option maxHeartbeats 4000000 in
theorem filMostI (w : World) (a : Option Addr) (n cap : Nat) (f : Nat → T) (g : Nat) (q : M → Int) (eg : ∀ args w, (callFunc g args).run Try.prog w = .ok (.enter g args) w) (hC : Counts g q) (h : Rd w a n cap f) :
    Calls Try.prog 49 #[.slice a n cap, .func (.func g) #[] #[]] w fun r w' => r = .returned (.int .i64 (filMost q n f)) ∧ Below w.heap.size w w' := by
  have HA := Hid.mk' h
  have HC := Hid.mk' hC
  have hn : (n : Int) ≤ 140737488351232 := by have := h.2.1; omega
  clear h hC
  cases hp : polOk n f
  · have e1 : filMost q n f = -1 := by simp [filMost, hp]
    rw [e1]
    go_enter Try.func49, Try.ntmps49
    go_wp2_with (go_at_call 10; refine (polOkI _ _ _ _ f HA.out).mono ?_; rw [hp]; rintro r w1 ⟨rfl, hb1⟩; have HB1 := Hid.mk' hb1; clear hb1)
    go_ret
    exact ⟨rfl, HB1.out⟩
  · have e1 : filMost q n f = mostL q f n := by simp [filMost, hp]
    rw [e1]
    have HM := Hid.mk' (polOk_m hp)
    go_enter Try.func49, Try.ntmps49
    go_wp2_with (go_at_call 10; refine (polOkI _ _ _ _ f HA.out).mono ?_; rw [hp]; rintro r w1 ⟨rfl, hb1⟩; have HB1 := Hid.mk' hb1; clear hb1)
    clear hp
    go_loopw [5, 14] (fun v i wr => ∃ k : Nat, k ≤ n ∧ v = .int .i64 (mostL q f k) ∧ i = .int .i64 (k : Int) ∧ Below w.heap.size w wr) (fun _ i _ => n - (intOf i).toNat)
    case atStart => exact ⟨0, Nat.zero_le _, rfl, rfl, HB1.out⟩
    case round =>
      obtain ⟨k, hk, rfl, rfl, hB⟩ := hrel
      by_cases hlt : k < n
      · have hkn : (k : Int) < (n : Int) := by omega
        have hri := HA.out.below hB
        rcases hri.2.2 with h0 | ⟨b, off, hpe, hblt, hcl⟩
        · omega
        obtain ⟨g0, g1, g2, g3, g4⟩ := hcl k hlt
        have HB2 := Hid.mk' (bel_next hB (bel_one wr (.cells #[.int .i64 (f k).c, .int .i64 (f k).m.x, .int .i64 (f k).m.y, .int .i64 (f k).m.d, .int .i64 (f k).m.e] 29)))
        have HCALL := Hid.mk' (HC.out (f k).m (wr.alloc (.cells #[.int .i64 (f k).c, .int .i64 (f k).m.x, .int .i64 (f k).m.y, .int .i64 (f k).m.d, .int .i64 (f k).m.e] 29)) (HM.out k hlt))
        clear hcl hri hB
        subst hpe
        go_wp2_with fail
        refine HCALL.out.mono ?_
        rintro r w4 ⟨rfl, hb4⟩
        have HB4 := Hid.mk' (bel_next HB2.out hb4)
        clear hb4
        go_wp2
        go_roundw
        case rel => exact ⟨k + 1, by omega, by first | rfl | exact congrArg (Value.int IntKind.i64) (most_max q f k), by go_num, HB4.out⟩
        case measure => simp [intOf]; omega
      · obtain rfl : k = n := by omega
        go_wp2
        go_ret
        exact ⟨rfl, hB⟩
/-- a function that says which of the terms are wanted, wherever Q is. -/
def Wants (g : Nat) (lb : Array Value) (p : T → Bool) (Q : World → Prop) (f : Nat → T) (n : Nat) : Prop :=
  ∀ (k : Nat) (W : World), k < n → Q W → Calls Try.prog g (#[.agg #[.int .i64 (f k).c, .int .i64 (f k).m.x, .int .i64 (f k).m.y, .int .i64 (f k).m.d, .int .i64 (f k).m.e]] ++ lb) W fun r w' => r = .returned (.bool (p (f k))) ∧ Below W.heap.size W w'
set_option maxRecDepth 100000 in
set_option maxHeartbeats 8000000 in
theorem keepIfI (w : World) (a : Option Addr) (n cap : Nat) (f : Nat → T) (g : Nat) (lb : Array Value) (p : T → Bool) (Q : World → Prop) (eg : ∀ args w, (callFunc g args).run Try.prog w = .ok (.enter g args) w) (hW : Wants g lb p Q f n) (hQ : ∀ W', Below w.heap.size w W' → Q W') (h : Rd w a n cap f) (hl : n ≤ 400) :
    Calls Try.prog 69 #[.slice a n cap, .func (.func g) #[] lb] w fun r w' => ∃ v, r = .returned v ∧ Below w.heap.size w w' ∧ w'.ownsRow w.heap.size 29 5 v (wantL p f n).length (cellsL (wantL p f n)) := by
  obtain ⟨i0, hi0, hz0, hz1, hz2⟩ := info_parts infoT
  have HA := Hid.mk' h
  have HW := Hid.mk' hW
  have HQ := Hid.mk' hQ
  have hn : (n : Int) ≤ 400 := by omega
  clear h hW hQ
  go_enter Try.func69, Try.ntmps69
  go_wp2
  go_loopw [5, 10] (fun v i wr => ∃ k : Nat, k ≤ n ∧ i = .int .i64 (k : Int) ∧ Below w.heap.size w wr ∧ wr.ownsRow w.heap.size 29 5 v (wantL p f k).length (cellsL (wantL p f k))) (fun _ i _ => n - (intOf i).toNat)
  case atStart => exact ⟨0, Nat.zero_le _, rfl, Below.refl _ _, ownsT_nil w _⟩
  case round =>
    obtain ⟨k, hk, rfl, hB, hown⟩ := hrel
    by_cases hlt : k < n
    · have hkn : (k : Int) < (n : Int) := by omega
      have hwl := wantL_len p f k
      have hri := HA.out.below hB
      rcases hri.2.2 with h0 | ⟨b, off, hpe, hblt, hcl⟩
      · omega
      obtain ⟨g0, g1, g2, g3, g4⟩ := hcl k hlt
      have HB2 := Hid.mk' (bel_next hB (bel_one wr (.cells #[.int .i64 (f k).c, .int .i64 (f k).m.x, .int .i64 (f k).m.y, .int .i64 (f k).m.d, .int .i64 (f k).m.e] 29)))
      have HCALL := Hid.mk' (HW.out k (wr.alloc (.cells #[.int .i64 (f k).c, .int .i64 (f k).m.x, .int .i64 (f k).m.y, .int .i64 (f k).m.d, .int .i64 (f k).m.e] 29)) hlt (HQ.out _ HB2.out))
      have HO := Hid.mk' (owns_below hown (bel_one wr (.cells #[.int .i64 (f k).c, .int .i64 (f k).m.x, .int .i64 (f k).m.y, .int .i64 (f k).m.d, .int .i64 (f k).m.e] 29)))
      have HBX : Hid (Cells (wr.alloc (.cells #[.int .i64 (f k).c, .int .i64 (f k).m.x, .int .i64 (f k).m.y, .int .i64 (f k).m.d, .int .i64 (f k).m.e] 29)) wr.heap.size 0 (f k)) := by
        refine ⟨?_, ?_, ?_, ?_, ?_⟩ <;> (rw [World.cell?_alloc_at _ _ _ _ rfl]; rfl)
      have hsz : wr.heap.size < (wr.alloc (.cells #[.int .i64 (f k).c, .int .i64 (f k).m.x, .int .i64 (f k).m.y, .int .i64 (f k).m.d, .int .i64 (f k).m.e] 29)).heap.size := by simp
      have HSZ := Hid.mk' hsz
      clear hcl hri hown hB hsz
      subst hpe
      cases hpk : p (f k)
      · have e2 : wantL p f (k + 1) = wantL p f k := by simp [wantL, hpk]
        have HE := Hid.mk' e2
        clear e2
        go_wp2_with fail
        refine HCALL.out.mono ?_
        rw [hpk]
        rintro r w4 ⟨rfl, hb4⟩
        have HB4 := Hid.mk' (bel_next HB2.out hb4)
        have HO4 := Hid.mk' (owns_below HO.out hb4)
        clear hb4
        go_wp2
        go_roundw
        case rel => exact ⟨k + 1, by omega, by go_num, HB4.out, by rw [HE.out]; exact HO4.out⟩
        case measure => simp [intOf]; omega
      · have e2 : wantL p f (k + 1) = wantL p f k ++ [f k] := by simp [wantL, hpk]
        have HE := Hid.mk' e2
        clear e2
        go_wp2_with fail
        refine HCALL.out.mono ?_
        rw [hpk]
        rintro r w4 ⟨rfl, hb4⟩
        have hB4 := bel_next HB2.out hb4
        have hO4 := owns_below HO.out hb4
        obtain ⟨x0, x1, x2, x3, x4⟩ := HBX.out.below hb4 HSZ.out
        clear hb4 g0 g1 g2 g3 g4
        go_wp2_with (at_builtin; refine wpList_append_lies _ rfl (.tmp 17) (.tmp 19) 23 rfl w.heap.size 29 i0 _ 5 40 Try.underlying23 hi0 hz0 hz1 hz2 rfl (by omega) _ (wantL p f k).length (cellsL (wantL p f k)) rfl (hO4.alloc _) ⟨w4.heap.size, 0, none⟩ 1 1 (cellsL [f k]) rfl (by rw [cellsL_length]; rfl) (by rw [cellsL_one]; exact World.news_of_block (heap_alloc_new w4 _)) (one_cells _) (by omega) (by unfold maxLen; omega) (by omega) (by have := hB4.size; simp; omega) _ rfl ?_; intro g0 cap0 w1 hown1 hgrow hat hlt1; have HB := Hid.mk' ((hB4.alloc hB4.size _).grown hgrow (Nat.le_trans hB4.size (by simp)) (fun k hk => (hO4.lt k hk).1)); have HO1 := Hid.mk' hown1; clear hown1 hgrow hat hlt1 hO4)
        go_roundw
        case rel => exact ⟨k + 1, by omega, by go_num, HB.out, by rw [HE.out, cellsL_append, List.length_append]; exact HO1.out⟩
        case measure => simp [intOf]; omega
    · obtain rfl : k = n := by omega
      go_wp2
      go_ret
      exact ⟨_, rfl, hB, hown⟩
theorem boxes_kept {w w1 W' : World} {A B : Value} {tA tB : TypeId} (h1 : Below ((w.alloc (.cells #[A] tA)).alloc (.cells #[B] tB)).heap.size ((w.alloc (.cells #[A] tA)).alloc (.cells #[B] tB)) w1) (hb : Below w1.heap.size w1 W') : W'.cell? ⟨w.heap.size, 0, none⟩ = some A ∧ W'.cell? ⟨w.heap.size + 1, 0, none⟩ = some B := by
  have hs : ((w.alloc (.cells #[A] tA)).alloc (.cells #[B] tB)).heap.size = w.heap.size + 2 := by simp
  have hl : w.heap.size + 2 ≤ w1.heap.size := by rw [← hs]; exact h1.size
  refine ⟨(hb.cell (p := ⟨w.heap.size, 0, none⟩) (show w.heap.size < w1.heap.size by omega)).trans ((h1.cell (p := ⟨w.heap.size, 0, none⟩) (by rw [hs]; show w.heap.size < _; omega)).trans ?_), (hb.cell (p := ⟨w.heap.size + 1, 0, none⟩) (show w.heap.size + 1 < w1.heap.size by omega)).trans ((h1.cell (p := ⟨w.heap.size + 1, 0, none⟩) (by rw [hs]; show w.heap.size + 1 < _; omega)).trans ?_)⟩
  · have : Below (w.alloc (.cells #[A] tA)).heap.size (w.alloc (.cells #[A] tA)) ((w.alloc (.cells #[A] tA)).alloc (.cells #[B] tB)) := (Below.refl _ _).alloc (Nat.le_refl _) _
    refine (this.cell (p := ⟨w.heap.size, 0, none⟩) (by simp)).trans ?_
    rw [World.cell?_alloc_at _ _ _ _ rfl]; rfl
  · have e : w.heap.size + 1 = (w.alloc (.cells #[A] tA)).heap.size := by simp
    rw [e, World.cell?_alloc_at _ _ _ _ rfl]; rfl
set_option maxHeartbeats 2000000 in
theorem filWith1_sl (t : T) (v : Int) (B1 B2 : Nat) (W : World) (h1 : W.cell? ⟨B1, 0, none⟩ = some (.func (.func 48) #[] #[])) (h2 : W.cell? ⟨B2, 0, none⟩ = some (.int .i64 v)) (hm : t.m.ok = true) :
    Calls Try.prog 70 #[.agg #[.int .i64 t.c, .int .i64 t.m.x, .int .i64 t.m.y, .int .i64 t.m.d, .int .i64 t.m.e], .pointer (some ⟨B1, 0, none⟩), .pointer (some ⟨B2, 0, none⟩)] W fun r w' => r = .returned (.bool (slp t.m == v)) ∧ Below W.heap.size W w' := by
  have l1 := World.block_lt_of_cell? W _ h1
  have l2 := World.block_lt_of_cell? W _ h2
  have HK := Hid.mk' hm
  have B1w := Hid.mk' (bel_one W (.cells #[.int .i64 t.c, .int .i64 t.m.x, .int .i64 t.m.y, .int .i64 t.m.d, .int .i64 t.m.e] 29))
  have ne := Ext.there (W.alloc (.cells #[.int .i64 t.c, .int .i64 t.m.x, .int .i64 t.m.y, .int .i64 t.m.d, .int .i64 t.m.e] 29))
  have s1 := ext_box (w := W) (t := 29) #[.int .i64 t.c, .int .i64 t.m.x, .int .i64 t.m.y, .int .i64 t.m.d, .int .i64 t.m.e] 1 _ rfl
  have s2 := ext_box (w := W) (t := 29) #[.int .i64 t.c, .int .i64 t.m.x, .int .i64 t.m.y, .int .i64 t.m.d, .int .i64 t.m.e] 2 _ rfl
  have s3 := ext_box (w := W) (t := 29) #[.int .i64 t.c, .int .i64 t.m.x, .int .i64 t.m.y, .int .i64 t.m.d, .int .i64 t.m.e] 3 _ rfl
  have s4 := ext_box (w := W) (t := 29) #[.int .i64 t.c, .int .i64 t.m.x, .int .i64 t.m.y, .int .i64 t.m.d, .int .i64 t.m.e] 4 _ rfl
  have c1 : ∀ u : Ext (W.alloc (.cells #[.int .i64 t.c, .int .i64 t.m.x, .int .i64 t.m.y, .int .i64 t.m.d, .int .i64 t.m.e] 29)), u.1.cell? ⟨B1, 0, none⟩ = some (.func (.func 48) #[] #[]) := fun u => (u.cell (Nat.lt_of_lt_of_le l1 B1w.out.size)).trans ((B1w.out.cell (p := ⟨B1, 0, none⟩) l1).trans h1)
  have c2 : ∀ u : Ext (W.alloc (.cells #[.int .i64 t.c, .int .i64 t.m.x, .int .i64 t.m.y, .int .i64 t.m.d, .int .i64 t.m.e] 29)), u.1.cell? ⟨B2, 0, none⟩ = some (.int .i64 v) := fun u => (u.cell (Nat.lt_of_lt_of_le l2 B1w.out.size)).trans ((B1w.out.cell (p := ⟨B2, 0, none⟩) l2).trans h2)
  clear h1 h2 l1 l2 hm
  go_enter Try.func70, Try.ntmps70
  go_wp2_with fail
  refine wp_region_ext (by kernel_rfl) (by kernel_rfl) ?_
  repeat (go_big_quiet_step ((go_at_call 48; exact ext_grows (slopesC t.m _ HK.out))))
  refine wpQuiet_nil ?_
  rintro _ ⟨u, rfl⟩
  go_wp2
  go_ret
  exact ⟨rfl, B1w.out.trans (u.2.mono B1w.out.size)⟩
set_option maxRecDepth 100000 in
set_option maxHeartbeats 4000000 in
theorem filWith_slI (w : World) (a : Option Addr) (n cap : Nat) (f : Nat → T) (v : Int) (h : Rd w a n cap f) :
    Calls Try.prog 47 #[.slice a n cap, .func (.func 48) #[] #[], .int .i64 v] w fun r w' => ∃ v', r = .returned v' ∧ Below w.heap.size w w' ∧ w'.ownsRow w.heap.size 29 5 v' (filWith slp v f n).length (cellsL (filWith slp v f n)) := by
  have HA := Hid.mk' h
  clear h
  cases hp : polOk n f
  · have e1 : filWith slp v f n = [] := by simp [filWith, hp]
    rw [e1]
    go_enter Try.func47, Try.ntmps47
    go_wp2_with (go_at_call 10; refine (polOkI _ _ _ _ f (HA.out.below (bel_two w _ _))).mono ?_; rw [hp]; rintro r w1 ⟨rfl, hb1⟩; have HB1 := Hid.mk' (bel_next (bel_two w _ _) hb1); clear hb1)
    go_ret
    exact ⟨_, rfl, HB1.out, ownsT_nil w1 _⟩
  · have e1 : filWith slp v f n = wantL (fun t => slp t.m == v) f n := by simp [filWith, hp]
    rw [e1]
    have HM := Hid.mk' (polOk_m hp)
    have hl := polOk_n hp
    go_enter Try.func47, Try.ntmps47
    go_wp2_with (first
      | (go_at_call 10; refine (polOkI _ _ _ _ f (HA.out.below (bel_two w _ _))).mono ?_; rw [hp]; rintro r w1 ⟨rfl, hb1⟩; have HB1 := Hid.mk' hb1; clear hb1)
      | (go_at_call 69; refine (keepIfI w1 a n cap f 70 #[.pointer (some ⟨w.heap.size, 0, none⟩), .pointer (some ⟨w.heap.size + 1, 0, none⟩)] (fun t => slp t.m == v) (fun W => W.cell? ⟨w.heap.size, 0, none⟩ = some (.func (.func 48) #[] #[]) ∧ W.cell? ⟨w.heap.size + 1, 0, none⟩ = some (.int .i64 v)) (enters_of Try.func70 (by kernel_rfl) rfl) (fun k W hk hQ => filWith1_sl (f k) v _ _ W hQ.1 hQ.2 (HM.out k hk)) (fun W' hb => boxes_kept HB1.out hb) ((HA.out.below (bel_two w _ _)).below HB1.out) hl).mono ?_; rintro r w2 ⟨v2, rfl, hb2, ho2⟩))
    go_ret
    exact ⟨_, rfl, bel_next (bel_next (bel_two w _ _) HB1.out) hb2, owns_lower ho2 (bel_next (bel_two w _ _) HB1.out).size⟩
set_option maxHeartbeats 2000000 in
theorem filWith1_dg (t : T) (v : Int) (B1 B2 : Nat) (W : World) (h1 : W.cell? ⟨B1, 0, none⟩ = some (.func (.func 52) #[] #[])) (h2 : W.cell? ⟨B2, 0, none⟩ = some (.int .i64 v)) (hm : t.m.ok = true) :
    Calls Try.prog 70 #[.agg #[.int .i64 t.c, .int .i64 t.m.x, .int .i64 t.m.y, .int .i64 t.m.d, .int .i64 t.m.e], .pointer (some ⟨B1, 0, none⟩), .pointer (some ⟨B2, 0, none⟩)] W fun r w' => r = .returned (.bool (dgr t.m == v)) ∧ Below W.heap.size W w' := by
  have l1 := World.block_lt_of_cell? W _ h1
  have l2 := World.block_lt_of_cell? W _ h2
  have HK := Hid.mk' hm
  have B1w := Hid.mk' (bel_one W (.cells #[.int .i64 t.c, .int .i64 t.m.x, .int .i64 t.m.y, .int .i64 t.m.d, .int .i64 t.m.e] 29))
  have ne := Ext.there (W.alloc (.cells #[.int .i64 t.c, .int .i64 t.m.x, .int .i64 t.m.y, .int .i64 t.m.d, .int .i64 t.m.e] 29))
  have s1 := ext_box (w := W) (t := 29) #[.int .i64 t.c, .int .i64 t.m.x, .int .i64 t.m.y, .int .i64 t.m.d, .int .i64 t.m.e] 1 _ rfl
  have s2 := ext_box (w := W) (t := 29) #[.int .i64 t.c, .int .i64 t.m.x, .int .i64 t.m.y, .int .i64 t.m.d, .int .i64 t.m.e] 2 _ rfl
  have s3 := ext_box (w := W) (t := 29) #[.int .i64 t.c, .int .i64 t.m.x, .int .i64 t.m.y, .int .i64 t.m.d, .int .i64 t.m.e] 3 _ rfl
  have s4 := ext_box (w := W) (t := 29) #[.int .i64 t.c, .int .i64 t.m.x, .int .i64 t.m.y, .int .i64 t.m.d, .int .i64 t.m.e] 4 _ rfl
  have c1 : ∀ u : Ext (W.alloc (.cells #[.int .i64 t.c, .int .i64 t.m.x, .int .i64 t.m.y, .int .i64 t.m.d, .int .i64 t.m.e] 29)), u.1.cell? ⟨B1, 0, none⟩ = some (.func (.func 52) #[] #[]) := fun u => (u.cell (Nat.lt_of_lt_of_le l1 B1w.out.size)).trans ((B1w.out.cell (p := ⟨B1, 0, none⟩) l1).trans h1)
  have c2 : ∀ u : Ext (W.alloc (.cells #[.int .i64 t.c, .int .i64 t.m.x, .int .i64 t.m.y, .int .i64 t.m.d, .int .i64 t.m.e] 29)), u.1.cell? ⟨B2, 0, none⟩ = some (.int .i64 v) := fun u => (u.cell (Nat.lt_of_lt_of_le l2 B1w.out.size)).trans ((B1w.out.cell (p := ⟨B2, 0, none⟩) l2).trans h2)
  clear h1 h2 l1 l2 hm
  go_enter Try.func70, Try.ntmps70
  go_wp2_with fail
  refine wp_region_ext (by kernel_rfl) (by kernel_rfl) ?_
  repeat (go_big_quiet_step ((go_at_call 52; exact ext_grows (degreeC t.m _ HK.out))))
  refine wpQuiet_nil ?_
  rintro _ ⟨u, rfl⟩
  go_wp2
  go_ret
  exact ⟨rfl, B1w.out.trans (u.2.mono B1w.out.size)⟩
set_option maxRecDepth 100000 in
set_option maxHeartbeats 4000000 in
theorem filWith_dgI (w : World) (a : Option Addr) (n cap : Nat) (f : Nat → T) (v : Int) (h : Rd w a n cap f) :
    Calls Try.prog 47 #[.slice a n cap, .func (.func 52) #[] #[], .int .i64 v] w fun r w' => ∃ v', r = .returned v' ∧ Below w.heap.size w w' ∧ w'.ownsRow w.heap.size 29 5 v' (filWith dgr v f n).length (cellsL (filWith dgr v f n)) := by
  have HA := Hid.mk' h
  clear h
  cases hp : polOk n f
  · have e1 : filWith dgr v f n = [] := by simp [filWith, hp]
    rw [e1]
    go_enter Try.func47, Try.ntmps47
    go_wp2_with (go_at_call 10; refine (polOkI _ _ _ _ f (HA.out.below (bel_two w _ _))).mono ?_; rw [hp]; rintro r w1 ⟨rfl, hb1⟩; have HB1 := Hid.mk' (bel_next (bel_two w _ _) hb1); clear hb1)
    go_ret
    exact ⟨_, rfl, HB1.out, ownsT_nil w1 _⟩
  · have e1 : filWith dgr v f n = wantL (fun t => dgr t.m == v) f n := by simp [filWith, hp]
    rw [e1]
    have HM := Hid.mk' (polOk_m hp)
    have hl := polOk_n hp
    go_enter Try.func47, Try.ntmps47
    go_wp2_with (first
      | (go_at_call 10; refine (polOkI _ _ _ _ f (HA.out.below (bel_two w _ _))).mono ?_; rw [hp]; rintro r w1 ⟨rfl, hb1⟩; have HB1 := Hid.mk' hb1; clear hb1)
      | (go_at_call 69; refine (keepIfI w1 a n cap f 70 #[.pointer (some ⟨w.heap.size, 0, none⟩), .pointer (some ⟨w.heap.size + 1, 0, none⟩)] (fun t => dgr t.m == v) (fun W => W.cell? ⟨w.heap.size, 0, none⟩ = some (.func (.func 52) #[] #[]) ∧ W.cell? ⟨w.heap.size + 1, 0, none⟩ = some (.int .i64 v)) (enters_of Try.func70 (by kernel_rfl) rfl) (fun k W hk hQ => filWith1_dg (f k) v _ _ W hQ.1 hQ.2 (HM.out k hk)) (fun W' hb => boxes_kept HB1.out hb) ((HA.out.below (bel_two w _ _)).below HB1.out) hl).mono ?_; rintro r w2 ⟨v2, rfl, hb2, ho2⟩))
    go_ret
    exact ⟨_, rfl, bel_next (bel_next (bel_two w _ _) HB1.out) hb2, owns_lower ho2 (bel_next (bel_two w _ _) HB1.out).size⟩
def filOrder (n : Nat) (f : Nat → T) : Int := filMost slp n f
def filDegree (n : Nat) (f : Nat → T) : Int := filMost dgr n f
theorem filOrderI (w : World) (a : Option Addr) (n cap : Nat) (f : Nat → T) (h : Rd w a n cap f) :
    Calls Try.prog 21 #[.slice a n cap] w fun r w' => r = .returned (.int .i64 (filOrder n f)) ∧ Below w.heap.size w w' := by
  have hc := filMostI w a n cap f 48 slp (enters_of Try.func48 (by kernel_rfl) rfl) slopesC h
  go_enter Try.func21, Try.ntmps21
  go_wp2_with (go_at_call 49; refine hc.mono ?_; rintro r w1 ⟨rfl, hb1⟩)
  go_ret
  exact ⟨rfl, hb1⟩
theorem filDegreeI (w : World) (a : Option Addr) (n cap : Nat) (f : Nat → T) (h : Rd w a n cap f) :
    Calls Try.prog 27 #[.slice a n cap] w fun r w' => r = .returned (.int .i64 (filDegree n f)) ∧ Below w.heap.size w w' := by
  have hc := filMostI w a n cap f 52 dgr (enters_of Try.func52 (by kernel_rfl) rfl) degreeC h
  go_enter Try.func27, Try.ntmps27
  go_wp2_with (go_at_call 49; refine hc.mono ?_; rintro r w1 ⟨rfl, hb1⟩)
  go_ret
  exact ⟨rfl, hb1⟩
def filSymbol (f : Nat → T) (n : Nat) : List T := filWith slp (filMost slp n f) f n
theorem filSymbol_len (f : Nat → T) (n : Nat) : (filSymbol f n).length ≤ 400 := filWith_len _ _ _ _
def filPart (f : Nat → T) (n : Nat) (v : Int) : List T := filWith dgr v f n
theorem filPart_len (f : Nat → T) (n : Nat) (v : Int) : (filPart f n v).length ≤ 400 := filWith_len _ _ _ _
theorem filSymbolI (w : World) (a : Option Addr) (n cap : Nat) (f : Nat → T) (h : Rd w a n cap f) :
    Calls Try.prog 20 #[.slice a n cap] w fun r w' => ∃ a' cap', r = .returned (.slice a' (filSymbol f n).length cap') ∧ Below w.heap.size w w' ∧ Out w.heap.size w' a' cap' (filSymbol f n) := by
  have HA := Hid.mk' h
  have hlen := filSymbol_len f n
  clear h
  go_enter Try.func20, Try.ntmps20
  go_wp2_with (first
    | (go_at_call 21; refine (filOrderI _ _ _ _ f HA.out).mono ?_; unfold filOrder; rintro r w1 ⟨rfl, hb1⟩)
    | (go_at_call 47; refine (filWith_slI _ _ _ _ f (filMost slp n f) (HA.out.below hb1)).mono ?_; rintro r w2 ⟨v, rfl, hb2, ho2⟩))
  go_ret
  obtain ⟨a', cap', rfl, hout⟩ := out_of_owns (owns_lower ho2 hb1.size) (by have := filWith_len slp (filMost slp n f) f n; omega)
  exact ⟨a', cap', rfl, bel_next hb1 hb2, hout⟩
theorem filPartI (w : World) (a : Option Addr) (n cap : Nat) (f : Nat → T) (v : Int) (h : Rd w a n cap f) :
    Calls Try.prog 25 #[.slice a n cap, .int .i64 v] w fun r w' => ∃ a' cap', r = .returned (.slice a' (filPart f n v).length cap') ∧ Below w.heap.size w w' ∧ Out w.heap.size w' a' cap' (filPart f n v) := by
  have hc := filWith_dgI w a n cap f v h
  go_enter Try.func25, Try.ntmps25
  go_wp2_with (go_at_call 47; refine hc.mono ?_; rintro r w2 ⟨v2, rfl, hb2, ho2⟩)
  go_ret
  obtain ⟨a', cap', rfl, hout⟩ := out_of_owns ho2 (by have := filWith_len dgr v f n; omega)
  exact ⟨a', cap', rfl, hb2, hout⟩
end Go.Proofs.Ytclmaenkoapppaa
namespace Go.Proofs.Ytclmaenkoapppaa
open Go.RowKit
set_option linter.unusedVariables false

theorem mx_if (a b : Int) : mx a b = if a < b then b else a := by unfold mx; split <;> split <;> omega
theorem mostL_succ (q : M → Int) (f : Nat → T) (k : Nat) : mostL q f (k + 1) = mx (mostL q f k) (q (f k).m) := by rw [mx_if]; rfl
theorem ord_deg {a b : M} (h : 0 < M.ord 1 a b) : b.deg ≤ a.deg := by
  unfold M.ord at h
  by_cases he : a.deg = b.deg
  · omega
  · rw [if_pos ⟨rfl, he⟩] at h
    unfold c3 at h
    split at h
    · omega
    · omega
theorem deg_ok {m : M} (h : m.ok = true) : m.deg = dgr m := by simp [M.deg, dgr, h]
theorem most_deg {n : Nat} {f : Nat → T} (hp : polOk n f = true) : ∀ i, i < n → mostL dgr f (i + 1) = dgr (f 0).m ∧ dgr (f i).m ≤ dgr (f 0).m
  | 0, h => by
    have hm := M.ok_iff.1 (polOk_m hp 0 h)
    refine ⟨?_, Int.le_refl _⟩
    show (if (-1 : Int) < dgr (f 0).m then dgr (f 0).m else -1) = _
    rw [if_pos (by unfold dgr; omega)]
  | i + 1, h => by
    obtain ⟨h1, h2⟩ := most_deg hp i (by omega)
    have hm := polOk_m hp
    have ho : okAt f (i + 1) = true := by have hh := hp; simp only [polOk, decide_eq_true_eq] at hh; exact hh.2 (i + 1) h
    simp only [okAt, Bool.and_eq_true, Bool.or_eq_true, decide_eq_true_eq, Nat.add_sub_cancel] at ho
    have h3 := ord_deg (ho.2.resolve_left (by omega))
    rw [deg_ok (hm _ h), deg_ok (hm i (by omega))] at h3
    have h4 : dgr (f (i + 1)).m ≤ dgr (f 0).m := by omega
    refine ⟨?_, h4⟩
    rw [mostL, h1, if_neg (by omega)]
set_option maxHeartbeats 2000000 in
theorem filDegreeS (w : World) (a : Option Addr) (n cap : Nat) (f : Nat → T) (h : Rd w a n cap f) :
    Calls Try.prog 28 #[.slice a n cap] w fun r w' => r = .returned (.int .i64 (filDegree n f)) ∧ Below w.heap.size w w' := by
  have HA := Hid.mk' h
  have hn : (n : Int) ≤ 140737488351232 := by have := h.2.1; omega
  clear h
  cases hp : polOk n f
  · have e1 : filDegree n f = -1 := by simp [filDegree, filMost, hp]
    rw [e1]
    go_enter Try.func28, Try.ntmps28
    go_wp2_with (go_at_call 12; refine (polOkS _ _ _ _ f HA.out).mono ?_; rw [hp]; rintro r w1 ⟨rfl, hb1⟩; have HB1 := Hid.mk' hb1; clear hb1)
    go_ret
    exact ⟨rfl, HB1.out⟩
  · by_cases h0 : n = 0
    · subst h0
      have e1 : filDegree 0 f = -1 := by simp [filDegree, filMost, hp, mostL]
      rw [e1]
      go_enter Try.func28, Try.ntmps28
      go_wp2_with (go_at_call 12; refine (polOkS _ _ _ _ f HA.out).mono ?_; rw [hp]; rintro r w1 ⟨rfl, hb1⟩; have HB1 := Hid.mk' hb1; clear hb1)
      go_ret
      exact ⟨rfl, HB1.out⟩
    · have hm0 := polOk_m hp 0 (by omega)
      have e1 : filDegree n f = M.deg ⟨(f 0).m.x, (f 0).m.y, (f 0).m.d, (f 0).m.e⟩ := by
        have h1 := (most_deg hp (n - 1) (by omega)).1
        rw [show n - 1 + 1 = n by omega] at h1
        simp only [filDegree, filMost, hp, if_true]
        rw [h1]
        exact (deg_ok hm0).symm
      rw [e1]
      clear e1
      have hpos : (0 : Int) < (n : Int) := by omega
      have hne : ((n : Int) == 0) = false := by simp; omega
      go_enter Try.func28, Try.ntmps28
      go_wp2_with (first
        | (go_at_call 12; refine (polOkS _ _ _ _ f HA.out).mono ?_; rw [hp]; rintro r w1 ⟨rfl, hb1⟩; have HB1 := Hid.mk' hb1; have hc1 := ((HA.out.below hb1).2.2.resolve_left h0); obtain ⟨b, off, hpe, hblt, hcl⟩ := hc1; have hg := hcl 0 (by omega); rw [show off + 0 * 5 = off by omega] at hg; obtain ⟨g0, g1, g2, g3, g4⟩ := hg; subst hpe; clear hb1 hcl)
        | (go_at_call 53; refine (monDegS _ _ _ _ _).mono ?_; rintro r w2 ⟨rfl, hb2⟩))
      go_ret
      exact ⟨rfl, bel_next HB1.out hb2⟩
set_option maxRecDepth 100000 in
set_option maxHeartbeats 4000000 in
theorem filOrderS (w : World) (a : Option Addr) (n cap : Nat) (f : Nat → T) (h : Rd w a n cap f) :
    Calls Try.prog 23 #[.slice a n cap] w fun r w' => r = .returned (.int .i64 (filOrder n f)) ∧ Below w.heap.size w w' := by
  have HA := Hid.mk' h
  have hn : (n : Int) ≤ 140737488351232 := by have := h.2.1; omega
  clear h
  cases hp : polOk n f
  · have e1 : filOrder n f = -1 := by simp [filOrder, filMost, hp]
    rw [e1]
    go_enter Try.func23, Try.ntmps23
    go_wp2
    go_loopw [3, 4] (fun v ii wr => v = .int .i64 (-1) ∧ ii = .int .i64 0 ∧ Below w.heap.size w wr) (fun _ _ _ => 0)
    case atStart => exact ⟨rfl, rfl, Below.refl _ _⟩
    case round =>
      obtain ⟨rfl, rfl, hbl⟩ := hrel
      by_cases h0 : n = 0
      · subst h0
        go_wp2
        go_ret
        exact ⟨rfl, hbl⟩
      · have hpos : (0 : Int) < (n : Int) := by omega
        have HBL := Hid.mk' hbl
        clear hbl
        go_wp2_with (go_at_call 12; refine (polOkS _ _ _ _ f (HA.out.below HBL.out)).mono ?_; rw [hp]; rintro r w1 ⟨rfl, hb1⟩; have HB1 := Hid.mk' hb1; clear hb1)
        go_ret
        exact ⟨rfl, bel_next HBL.out HB1.out⟩
  · have e1 : filOrder n f = mostL slp f n := by simp [filOrder, filMost, hp]
    rw [e1]
    have HM := Hid.mk' (polOk_m hp)
    go_enter Try.func23, Try.ntmps23
    go_wp2
    go_loopw [3, 4] (fun v ii wr => ∃ k : Nat, k ≤ n ∧ v = .int .i64 (mostL slp f k) ∧ ii = .int .i64 (k : Int) ∧ Below w.heap.size w wr) (fun _ ii _ => n - (intOf ii).toNat)
    case atStart => exact ⟨0, Nat.zero_le _, rfl, rfl, Below.refl _ _⟩
    case round =>
      obtain ⟨k, hk, rfl, rfl, hbl⟩ := hrel
      by_cases hlt : k < n
      · have hkn : (k : Int) < (n : Int) := by omega
        obtain ⟨_, _, _, _, d1, d2, e1, e2⟩ := M.ok_iff.1 (HM.out k hlt)
        have HBL := Hid.mk' hbl
        clear hbl
        go_wp2_with (go_at_call 12; refine (polOkS _ _ _ _ f (HA.out.below HBL.out)).mono ?_; rw [hp]; rintro r w1 ⟨rfl, hb1⟩; have HB1 := Hid.mk' (bel_next HBL.out hb1); clear hb1)
        have hri := HA.out.below HB1.out
        rcases hri.2.2 with h0 | ⟨b, off, hpe, hblt, hcl⟩
        · omega
        have hck := hcl k hlt
        subst hpe
        have ne := Ext.there w1
        have s3 : ∀ u : Ext w1, u.1.cell? ⟨b, off + k * 5 + 3, none⟩ = some (.int .i64 (f k).m.d) := fun u => (u.cell hblt).trans hck.2.2.2.1
        have s4 : ∀ u : Ext w1, u.1.cell? ⟨b, off + k * 5 + 4, none⟩ = some (.int .i64 (f k).m.e) := fun u => (u.cell hblt).trans hck.2.2.2.2
        have HS := Hid.mk' (mostL_succ slp f k)
        clear hck hcl hri hp
        go_wp2_with fail
        refine wp_region_ext (by kernel_rfl) (by kernel_rfl) ?_
        repeat (go_big_quiet_step ((go_at_call 50; exact ext_same (maxS _ _ _))))
        refine wpQuiet_nil ?_
        rintro _ ⟨u, rfl⟩
        go_wp2
        go_roundw
        case rel => exact ⟨k + 1, by omega, by rw [HS.out]; rfl, by go_num, bel_next HB1.out u.2⟩
        case measure => simp [intOf]; omega
      · obtain rfl : k = n := by omega
        go_wp2
        go_ret
        exact ⟨rfl, hbl⟩
set_option maxRecDepth 100000 in
set_option maxHeartbeats 4000000 in
theorem filPartS (w : World) (a : Option Addr) (n cap : Nat) (f : Nat → T) (v : Int) (h : Rd w a n cap f) :
    Calls Try.prog 26 #[.slice a n cap, .int .i64 v] w fun r w' => ∃ v', r = .returned v' ∧ Below w.heap.size w w' ∧ w'.ownsRow w.heap.size 29 5 v' (filPart f n v).length (cellsL (filPart f n v)) := by
  obtain ⟨i0, hi0, hz0, hz1, hz2⟩ := info_parts infoT
  have HA := Hid.mk' h
  have hn : (n : Int) ≤ 140737488351232 := by have := h.2.1; omega
  have hO0 := owns_none w w.heap.size (Nat.le_refl _)
  have hB0 := bel_one w (.cells #[] 29)
  clear h
  cases hpa : polOk n f
  · have e1 : filPart f n v = [] := by simp [filPart, filWith, hpa]
    rw [e1]
    go_enter Try.func26, Try.ntmps26
    go_wp2
    generalize w.alloc (.cells #[] 29) = w0 at *
    go_loopw [5, 6] (fun v ii wr => ii = .int .i64 0 ∧ wr.ownsRow w.heap.size 29 5 v 0 (cellsL []) ∧ Below w.heap.size w wr) (fun _ _ _ => 0)
    case atStart => exact ⟨rfl, hO0, hB0⟩
    case round =>
      obtain ⟨rfl, hown, hbl⟩ := hrel
      by_cases h0 : n = 0
      · subst h0
        go_wp2
        go_ret
        exact ⟨_, rfl, hbl, hown⟩
      · have hpos : (0 : Int) < (n : Int) := by omega
        have HOWN := Hid.mk' hown
        have HBL := Hid.mk' hbl
        clear hown hbl
        go_wp2_with (go_at_call 12; refine (polOkS _ _ _ _ f (HA.out.below HBL.out)).mono ?_; rw [hpa]; rintro r w1 ⟨rfl, hb1⟩; have HB1 := Hid.mk' hb1; clear hb1)
        go_ret
        exact ⟨_, rfl, bel_next HBL.out HB1.out, owns_below HOWN.out HB1.out⟩
  · have e1 : filPart f n v = wantL (fun t => dgr t.m == v) f n := by simp [filPart, filWith, hpa]
    rw [e1]
    have l1 := polOk_n hpa
    have HM := Hid.mk' (polOk_m hpa)
    go_enter Try.func26, Try.ntmps26
    go_wp2
    generalize w.alloc (.cells #[] 29) = w0 at *
    go_loopw [5, 6] (fun v' ii wr => ∃ i : Nat, i ≤ n ∧ ii = .int .i64 (i : Int) ∧ wr.ownsRow w.heap.size 29 5 v' (wantL (fun t => dgr t.m == v) f i).length (cellsL (wantL (fun t => dgr t.m == v) f i)) ∧ Below w.heap.size w wr) (fun _ ii _ => n - (intOf ii).toNat)
    case atStart => exact ⟨0, Nat.zero_le _, rfl, hO0, hB0⟩
    case round =>
      obtain ⟨k, hi, rfl, hown, hbl⟩ := hrel
      by_cases hlt : k < n
      · have hil : (k : Int) < (n : Int) := by omega
        have hwl := wantL_len (fun t => dgr t.m == v) f k
        have hdg : M.deg ⟨(f k).m.x, (f k).m.y, (f k).m.d, (f k).m.e⟩ = dgr (f k).m := deg_ok (HM.out k hlt)
        have HOWN := Hid.mk' hown
        have HBL := Hid.mk' hbl
        clear hown hbl
        have hri := HA.out.below HBL.out
        rcases hri.2.2 with h0 | ⟨pb, off, hpe, hblt, hcl⟩
        · omega
        subst hpe
        clear hcl hri
        by_cases hv : dgr (f k).m = v
        · have hvb : (dgr (f k).m == v) = true := by simp [hv]
          have e2 : wantL (fun t => dgr t.m == v) f (k + 1) = wantL (fun t => dgr t.m == v) f k ++ [f k] := by simp [wantL, hv]
          have HE := Hid.mk' e2
          clear e2 hv
          generalize hWL : wantL (fun t => dgr t.m == v) f k = L at *
          go_wp2_with (first
            | (go_at_call 12; refine (polOkS _ _ _ _ f (HA.out.below HBL.out)).mono ?_; rw [hpa]; rintro r w1 ⟨rfl, hb1⟩; have HB1 := Hid.mk' hb1; have HB1w := Hid.mk' (bel_next HBL.out hb1); have hr1 := HA.out.below HB1w.out; have hc1 := (hr1.2.2.resolve_left (by omega)); obtain ⟨pb', off', hpe', hblt', hcl'⟩ := hc1; cases hpe'; obtain ⟨g0, g1, g2, g3, g4⟩ := hcl' k hlt; have HG := Hid.mk' (hcl' k hlt); clear hb1 hr1 hcl')
            | (go_at_call 53; refine (monDegS _ _ _ _ _).mono ?_; rw [hdg]; rintro r w2 ⟨rfl, hb2⟩; have hB2 := bel_next HB1w.out hb2; have hO2 := owns_below (owns_below HOWN.out HB1.out) hb2; obtain ⟨x0, x1, x2, x3, x4⟩ := HG.out.below hb2 hblt'; clear hb2 g0 g1 g2 g3 g4)
            | (at_builtin; refine wpList_append_lies _ rfl (.tmp 26) (.tmp 31) 23 rfl w.heap.size 29 i0 _ 5 40 Try.underlying23 hi0 hz0 hz1 hz2 rfl (by omega) _ L.length (cellsL L) rfl (hO2.alloc _) ⟨w2.heap.size, 0, none⟩ 1 1 (cellsL [f k]) rfl (by rw [cellsL_length]; rfl) (by rw [cellsL_one]; exact World.news_of_block (heap_alloc_new w2 _)) (one_cells _) (by omega) (by unfold maxLen; omega) (by omega) (by have := hB2.size; simp; omega) _ rfl ?_; intro g0 cap0 w3 hown1 hgrow hat hlt1; have HB := Hid.mk' ((hB2.alloc hB2.size _).grown hgrow (Nat.le_trans hB2.size (by simp)) (fun k hk => (hO2.lt k hk).1)); have HO1 := Hid.mk' hown1; clear hown1 hgrow hat hlt1 hO2))
          go_roundw
          case rel => exact ⟨k + 1, by omega, by go_num, by rw [HE.out, cellsL_append, List.length_append]; exact HO1.out, HB.out⟩
          case measure => simp [intOf]; omega
        · have hvb : (dgr (f k).m == v) = false := by simp [hv]
          have e2 : wantL (fun t => dgr t.m == v) f (k + 1) = wantL (fun t => dgr t.m == v) f k := by simp [wantL, hv]
          have HE := Hid.mk' e2
          clear e2 hv
          generalize hWL : wantL (fun t => dgr t.m == v) f k = L at *
          go_wp2_with (first
            | (go_at_call 12; refine (polOkS _ _ _ _ f (HA.out.below HBL.out)).mono ?_; rw [hpa]; rintro r w1 ⟨rfl, hb1⟩; have HB1 := Hid.mk' hb1; have HB1w := Hid.mk' (bel_next HBL.out hb1); have hr1 := HA.out.below HB1w.out; have hc1 := (hr1.2.2.resolve_left (by omega)); obtain ⟨pb', off', hpe', hblt', hcl'⟩ := hc1; cases hpe'; obtain ⟨g0, g1, g2, g3, g4⟩ := hcl' k hlt; clear hb1 hr1 hcl')
            | (go_at_call 53; refine (monDegS _ _ _ _ _).mono ?_; rw [hdg]; rintro r w2 ⟨rfl, hb2⟩; have HB2 := Hid.mk' (bel_next HB1w.out hb2); have HO2 := Hid.mk' (owns_below (owns_below HOWN.out HB1.out) hb2); clear hb2 g0 g1 g2 g3 g4))
          go_roundw
          case rel => exact ⟨k + 1, by omega, by go_num, by rw [HE.out]; exact HO2.out, HB2.out⟩
          case measure => simp [intOf]; omega
      · obtain rfl : k = n := by omega
        have HOWN := Hid.mk' hown
        have HBL := Hid.mk' hbl
        clear hown hbl
        go_wp2
        go_ret
        exact ⟨_, rfl, HBL.out, HOWN.out⟩
set_option maxRecDepth 100000 in
set_option maxHeartbeats 4000000 in
theorem filSymbolS (w : World) (a : Option Addr) (n cap : Nat) (f : Nat → T) (h : Rd w a n cap f) :
    Calls Try.prog 22 #[.slice a n cap] w fun r w' => ∃ v', r = .returned v' ∧ Below w.heap.size w w' ∧ w'.ownsRow w.heap.size 29 5 v' (filSymbol f n).length (cellsL (filSymbol f n)) := by
  obtain ⟨i0, hi0, hz0, hz1, hz2⟩ := info_parts infoT
  have HA := Hid.mk' h
  have hn : (n : Int) ≤ 140737488351232 := by have := h.2.1; omega
  have hO0 := owns_none w w.heap.size (Nat.le_refl _)
  have hB0 := bel_one w (.cells #[] 29)
  clear h
  cases hpa : polOk n f
  · have e1 : filSymbol f n = [] := by simp [filSymbol, filWith, hpa]
    rw [e1]
    go_enter Try.func22, Try.ntmps22
    go_wp2_with (go_at_call 23; refine (filOrderS _ _ _ _ f (HA.out.below hB0)).mono ?_; rintro r w9 ⟨rfl, hb9⟩; have HB9 := Hid.mk' (bel_next hB0 hb9); have HO9 := Hid.mk' (owns_below hO0 hb9); clear hb9 hB0 hO0)
    go_loopw [3, 5] (fun v ii wr => ii = .int .i64 0 ∧ wr.ownsRow w.heap.size 29 5 v 0 (cellsL []) ∧ Below w.heap.size w wr) (fun _ _ _ => 0)
    case atStart => exact ⟨rfl, HO9.out, HB9.out⟩
    case round =>
      obtain ⟨rfl, hown, hbl⟩ := hrel
      by_cases h0 : n = 0
      · subst h0
        go_wp2
        go_ret
        exact ⟨_, rfl, hbl, hown⟩
      · have hpos : (0 : Int) < (n : Int) := by omega
        have HOWN := Hid.mk' hown
        have HBL := Hid.mk' hbl
        clear hown hbl
        go_wp2_with (go_at_call 12; refine (polOkS _ _ _ _ f (HA.out.below HBL.out)).mono ?_; rw [hpa]; rintro r w1 ⟨rfl, hb1⟩; have HB1 := Hid.mk' hb1; clear hb1)
        go_ret
        exact ⟨_, rfl, bel_next HBL.out HB1.out, owns_below HOWN.out HB1.out⟩
  · have e1 : filSymbol f n = wantL (fun t => slp t.m == filOrder n f) f n := by simp [filSymbol, filWith, hpa, filOrder]
    rw [e1]
    have l1 := polOk_n hpa
    have HM := Hid.mk' (polOk_m hpa)
    generalize hvo : filOrder n f = v at *
    go_enter Try.func22, Try.ntmps22
    go_wp2_with (go_at_call 23; refine (filOrderS _ _ _ _ f (HA.out.below hB0)).mono ?_; rw [hvo]; rintro r w9 ⟨rfl, hb9⟩; have HB9 := Hid.mk' (bel_next hB0 hb9); have HO9 := Hid.mk' (owns_below hO0 hb9); clear hb9 hB0 hO0)
    clear hvo e1
    go_loopw [3, 5] (fun v' ii wr => ∃ i : Nat, i ≤ n ∧ ii = .int .i64 (i : Int) ∧ wr.ownsRow w.heap.size 29 5 v' (wantL (fun t => slp t.m == v) f i).length (cellsL (wantL (fun t => slp t.m == v) f i)) ∧ Below w.heap.size w wr) (fun _ ii _ => n - (intOf ii).toNat)
    case atStart => exact ⟨0, Nat.zero_le _, rfl, HO9.out, HB9.out⟩
    case round =>
      obtain ⟨k, hi, rfl, hown, hbl⟩ := hrel
      by_cases hlt : k < n
      · have hil : (k : Int) < (n : Int) := by omega
        have hwl := wantL_len (fun t => slp t.m == v) f k
        obtain ⟨_, _, _, _, d1, d2, e1, e2⟩ := M.ok_iff.1 (HM.out k hlt)
        have HOWN := Hid.mk' hown
        have HBL := Hid.mk' hbl
        clear hown hbl
        have hri := HA.out.below HBL.out
        rcases hri.2.2 with h0 | ⟨pb, off, hpe, hblt, hcl⟩
        · omega
        subst hpe
        clear hcl hri
        go_wp2_with (go_at_call 12; refine (polOkS _ _ _ _ f (HA.out.below HBL.out)).mono ?_; rw [hpa]; rintro r w1 ⟨rfl, hb1⟩; have HB1 := Hid.mk' hb1; have HB1w := Hid.mk' (bel_next HBL.out hb1); have hr1 := HA.out.below HB1w.out; have hc1 := (hr1.2.2.resolve_left (by omega)); obtain ⟨pb', off', hpe', hblt', hcl'⟩ := hc1; cases hpe'; have HG := Hid.mk' (hcl' k hlt); clear hb1 hr1 hcl')
        have ne := Ext.there w1
        have s3 : ∀ u : Ext w1, u.1.cell? ⟨pb, off + k * 5 + 3, none⟩ = some (.int .i64 (f k).m.d) := fun u => (u.cell hblt').trans HG.out.2.2.2.1
        have s4 : ∀ u : Ext w1, u.1.cell? ⟨pb, off + k * 5 + 4, none⟩ = some (.int .i64 (f k).m.e) := fun u => (u.cell hblt').trans HG.out.2.2.2.2
        by_cases hv : slp (f k).m = v
        · have hvb : ((f k).m.d + (f k).m.e == v) = true := by have : (f k).m.d + (f k).m.e = v := hv; simp [this]
          have e2 : wantL (fun t => slp t.m == v) f (k + 1) = wantL (fun t => slp t.m == v) f k ++ [f k] := by simp [wantL, hv]
          have HE := Hid.mk' e2
          clear e2 hv
          generalize hWL : wantL (fun t => slp t.m == v) f k = L at *
          refine wp_region_ext (by kernel_rfl) (by kernel_rfl) ?_
          repeat (go_big_quiet_step (fail))
          refine wpQuiet_nil ?_
          rintro w2 ⟨u, hu⟩
          have hb2 : Below w1.heap.size w1 w2 := by rw [hu]; exact u.2
          clear hu u s3 s4
          have hB2 := bel_next HB1w.out hb2
          have hO2 := owns_below (owns_below HOWN.out HB1.out) hb2
          obtain ⟨x0, x1, x2, x3, x4⟩ := HG.out.below hb2 hblt'
          clear hb2
          go_wp2_with (at_builtin; refine wpList_append_lies _ rfl (.tmp 34) (.tmp 39) 23 rfl w.heap.size 29 i0 _ 5 40 Try.underlying23 hi0 hz0 hz1 hz2 rfl (by omega) _ L.length (cellsL L) rfl (hO2.alloc _) ⟨w2.heap.size, 0, none⟩ 1 1 (cellsL [f k]) rfl (by rw [cellsL_length]; rfl) (by rw [cellsL_one]; exact World.news_of_block (heap_alloc_new w2 _)) (one_cells _) (by omega) (by unfold maxLen; omega) (by omega) (by have := hB2.size; simp; omega) _ rfl ?_; intro g0 cap0 w3 hown1 hgrow hat hlt1; have HB := Hid.mk' ((hB2.alloc hB2.size _).grown hgrow (Nat.le_trans hB2.size (by simp)) (fun k hk => (hO2.lt k hk).1)); have HO1 := Hid.mk' hown1; clear hown1 hgrow hat hlt1 hO2)
          go_roundw
          case rel => exact ⟨k + 1, by omega, by go_num, by rw [HE.out, cellsL_append, List.length_append]; exact HO1.out, HB.out⟩
          case measure => simp [intOf]; omega
        · have hvb : ((f k).m.d + (f k).m.e == v) = false := by have : ¬ (f k).m.d + (f k).m.e = v := hv; simp [this]
          have e2 : wantL (fun t => slp t.m == v) f (k + 1) = wantL (fun t => slp t.m == v) f k := by simp [wantL, hv]
          have HE := Hid.mk' e2
          clear e2 hv
          generalize hWL : wantL (fun t => slp t.m == v) f k = L at *
          refine wp_region_ext (by kernel_rfl) (by kernel_rfl) ?_
          repeat (go_big_quiet_step (fail))
          refine wpQuiet_nil ?_
          rintro w2 ⟨u, hu⟩
          have hb2 : Below w1.heap.size w1 w2 := by rw [hu]; exact u.2
          clear hu u s3 s4
          have HB2 := Hid.mk' (bel_next HB1w.out hb2)
          have HO2 := Hid.mk' (owns_below (owns_below HOWN.out HB1.out) hb2)
          clear hb2
          go_wp2
          go_roundw
          case rel => exact ⟨k + 1, by omega, by go_num, by rw [HE.out]; exact HO2.out, HB2.out⟩
          case measure => simp [intOf]; omega
      · obtain rfl : k = n := by omega
        have HOWN := Hid.mk' hown
        have HBL := Hid.mk' hbl
        clear hown hbl
        go_wp2
        go_ret
        exact ⟨_, rfl, HBL.out, HOWN.out⟩
end Go.Proofs.Ytclmaenkoapppaa
namespace Go.Proofs.Ytclmaenkoapppaa
open Go.RowKit
set_option linter.unusedVariables false

theorem em (a : Int) : a % 101 % 101 = a % 101 := by omega
theorem sc_sum {c : Int} {L K : List T} (c1 : 0 ≤ c) (c2 : c ≤ 100) (hL : okL L = true) (hK : okL K = true) (hs : (addL L K).length ≤ 400) : scV c (addL L K) = addL (scV c L) (scV c K) := by
  have f1 := scV_facts c1 c2 hL
  have f2 := scV_facts c1 c2 hK
  have a1 := addL_facts (okL_falls hL).2 (okL_falls hK).2
  have f3 := scV_facts c1 c2 (okL_of hs a1.1)
  have a2 := addL_facts f1.1 f2.1
  refine falls_one f3.1 a2.1 (fun m _ => ?_)
  rw [f3.2.1, a1.2, a2.2, f1.2.1, f2.2.1, Int.mul_emod, em, ← Int.mul_emod, Int.mul_add, Int.add_emod]
theorem sc_twice {c d : Int} {L : List T} (c1 : 0 ≤ c) (c2 : c ≤ 100) (d1 : 0 ≤ d) (d2 : d ≤ 100) (hL : okL L = true) : scV d (scV c L) = scV (fMul c d) L := by
  have f1 := scV_facts c1 c2 hL
  have o1 : okL (scV c L) = true := okL_of (by have := (okL_falls hL).1; omega) f1.1
  have f2 := scV_facts d1 d2 o1
  have f3 := scV_facts (fMul_bd c d).1 (fMul_bd c d).2 hL
  refine falls_one f2.1 f3.1 (fun m _ => ?_)
  rw [f2.2.1, f1.2.1, f3.2.1, fMul_in c1 c2 d1 d2, Int.mul_emod, em, ← Int.mul_emod, Int.mul_emod (c * d % 101), em, ← Int.mul_emod, ← Int.mul_assoc, Int.mul_comm d c]
theorem sc_plus {c d : Int} {L : List T} (c1 : 0 ≤ c) (c2 : c ≤ 100) (d1 : 0 ≤ d) (d2 : d ≤ 100) (hL : okL L = true) : scV (fAdd c d) L = addL (scV c L) (scV d L) := by
  have f1 := scV_facts c1 c2 hL
  have f2 := scV_facts d1 d2 hL
  have a2 := addL_facts f1.1 f2.1
  have hr : 0 ≤ fAdd c d ∧ fAdd c d ≤ 100 := by rw [fAdd_in c1 c2 d1 d2]; omega
  have f3 := scV_facts hr.1 hr.2 hL
  refine falls_one f3.1 a2.1 (fun m _ => ?_)
  rw [f3.2.1, a2.2, f1.2.1, f2.2.1, fAdd_in c1 c2 d1 d2, Int.mul_emod, em, ← Int.mul_emod, Int.add_mul, Int.add_emod]
theorem sc_one {L : List T} (hL : okL L = true) : scV 1 L = L := by
  have f1 := scV_facts (c := 1) (by omega) (by omega) hL
  have hF := (okL_falls hL).2
  refine falls_one f1.1 hF (fun m _ => ?_)
  have := coef_range hF m
  rw [f1.2.1]
  omega
/-! the most that is counted -/
def moL (q : M → Int) (L : List T) : Int := filMost q L.length (lf L)
theorem most_ge (q : M → Int) (f : Nat → T) : ∀ n i, i < n → q (f i).m ≤ mostL q f n
  | 0, i, h => absurd h (Nat.not_lt_zero _)
  | n + 1, i, h => by
    unfold mostL
    by_cases e : i = n
    · rw [e]
      split <;> omega
    · have := most_ge q f n i (by omega)
      split <;> omega
theorem most_at (q : M → Int) (f : Nat → T) : ∀ n, mostL q f n = -1 ∨ ∃ i, i < n ∧ mostL q f n = q (f i).m
  | 0 => .inl rfl
  | n + 1 => by
    unfold mostL
    split
    · exact .inr ⟨n, by omega, rfl⟩
    · rcases most_at q f n with h | ⟨i, hi, h⟩
      · exact .inl h
      · exact .inr ⟨i, by omega, h⟩
theorem most_low (q : M → Int) (f : Nat → T) : ∀ n, -1 ≤ mostL q f n
  | 0 => Int.le_refl _
  | n + 1 => by have := most_low q f n; unfold mostL; split <;> omega
theorem moL_is {q : M → Int} {L : List T} (h : okL L = true) : moL q L = mostL q (lf L) L.length := if_pos h
theorem moL_ge {q : M → Int} {L : List T} (h : okL L = true) {t : T} (ht : t ∈ L) : q t.m ≤ moL q L := by
  rw [moL_is h]
  obtain ⟨i, hi, rfl⟩ := List.mem_iff_getElem.1 ht
  have := most_ge q (lf L) L.length i hi
  rwa [lf_eq hi] at this
theorem moL_at {q : M → Int} {L : List T} (h : okL L = true) : moL q L = -1 ∨ ∃ t ∈ L, moL q L = q t.m := by
  rw [moL_is h]
  rcases most_at q (lf L) L.length with h1 | ⟨i, hi, h1⟩
  · exact .inl h1
  · exact .inr ⟨L[i], List.getElem_mem hi, by rw [h1, lf_eq hi]⟩
theorem moL_low {q : M → Int} {L : List T} (h : okL L = true) : -1 ≤ moL q L := by rw [moL_is h]; exact most_low q (lf L) L.length
theorem coef_ne_mem {m : M} : ∀ {L : List T}, coef L m ≠ 0 → ∃ t ∈ L, t.m = m
  | [], h => absurd rfl h
  | t :: r, h => by
    rw [coef] at h
    split at h
    · rename_i he
      exact ⟨t, List.mem_cons_self .., meqB_iff.1 he⟩
    · obtain ⟨s, hs, e⟩ := coef_ne_mem h
      exact ⟨s, List.mem_cons_of_mem _ hs, e⟩
theorem mem_coef {L : List T} (h : Falls L) {t : T} (ht : t ∈ L) : coef L t.m = t.c ∧ coef L t.m ≠ 0 := by
  have h1 : coef L t.m = t.c := by
    induction L with
    | nil => cases ht
    | cons s r ih =>
      rw [coef]
      rcases List.mem_cons.1 ht with rfl | ht'
      · rw [if_pos (meqB_iff.2 rfl)]
      · have h1 := h.head t ht'
        rw [if_neg (fun e => by rw [meqB_iff.1 e] at h1; omega)]
        exact ih h.tail ht'
  have h2 := h.2 t ht
  exact ⟨h1, by omega⟩
theorem mo_sum_le {q : M → Int} {L K : List T} (hL : okL L = true) (hK : okL K = true) (hs : (addL L K).length ≤ 400) : moL q (addL L K) ≤ max (moL q L) (moL q K) := by
  have fL := (okL_falls hL).2
  have fK := (okL_falls hK).2
  have a1 := addL_facts fL fK
  have l1 := moL_low (q := q) hL
  rcases moL_at (q := q) (okL_of hs a1.1) with h | ⟨t, ht, h⟩
  · omega
  · rw [h]
    have h1 := (mem_coef a1.1 ht).2
    rw [a1.2] at h1
    by_cases h2 : coef L t.m = 0
    · have h3 : coef K t.m ≠ 0 := fun e => h1 (by rw [h2, e]; rfl)
      obtain ⟨s, hs2, e⟩ := coef_ne_mem h3
      have := moL_ge (q := q) hK hs2
      rw [e] at this
      omega
    · obtain ⟨s, hs2, e⟩ := coef_ne_mem h2
      have := moL_ge (q := q) hL hs2
      rw [e] at this
      omega
theorem mo_sum_gt {q : M → Int} {L K : List T} (hL : okL L = true) (hK : okL K = true) (hs : (addL L K).length ≤ 400) (h : moL q K < moL q L) : moL q (addL L K) = moL q L := by
  have fL := (okL_falls hL).2
  have fK := (okL_falls hK).2
  have a1 := addL_facts fL fK
  have hle := mo_sum_le (q := q) hL hK hs
  have l1 := moL_low (q := q) hK
  rcases moL_at (q := q) hL with h1 | ⟨t, ht, h1⟩
  · omega
  · have h2 := (mem_coef fL ht)
    have h3 : coef K t.m = 0 := by
      by_cases hz : coef K t.m = 0
      · exact hz
      · obtain ⟨s, hs2, e⟩ := coef_ne_mem hz
        have := moL_ge (q := q) hK hs2
        rw [e] at this
        omega
    have h4 : coef (addL L K) t.m ≠ 0 := by
      have hr := coef_range fL t.m
      rw [a1.2, h3]
      have := h2.2
      omega
    obtain ⟨s, hs2, e⟩ := coef_ne_mem h4
    have := moL_ge (q := q) (okL_of hs a1.1) hs2
    rw [e] at this
    omega
theorem mo_sum_ne {q : M → Int} {L K : List T} (hL : okL L = true) (hK : okL K = true) (hs : (addL L K).length ≤ 400) (h : moL q L ≠ moL q K) : moL q (addL L K) = max (moL q L) (moL q K) := by
  rcases Int.lt_trichotomy (moL q L) (moL q K) with h1 | h1 | h1
  · have e := addL_comm (okL_falls hL).2 (okL_falls hK).2
    rw [e] at hs ⊢
    rw [mo_sum_gt hK hL hs h1]
    omega
  · exact absurd h1 h
  · rw [mo_sum_gt hL hK hs h1]
    omega
theorem ordI_L {w : World} {a : Option Addr} {ca : Nat} {L : List T} (ha : RL w a ca L) : Calls Try.prog 21 #[.slice a L.length ca] w (Val w (.int .i64 (moL slp L))) := filOrderI w a L.length ca (lf L) ha
theorem degI_L {w : World} {a : Option Addr} {ca : Nat} {L : List T} (ha : RL w a ca L) : Calls Try.prog 27 #[.slice a L.length ca] w (Val w (.int .i64 (moL dgr L))) := filDegreeI w a L.length ca (lf L) ha
end Go.Proofs.Ytclmaenkoapppaa
