/-
  Tops: the most that is counted in a term, and the terms in which just so many are: the program.
-/
import Derived.Test.YtnfimnfaejjagaaGap
import Derived.Test.YtnfimnfaejjagaaGah
import Derived.Deep.RegionHeld3
import Derived.Shelf.Abstract
namespace Go.Proofs.Ytnfimnfaejjagaa
open Go.RowKit
set_option linter.unusedVariables false

def slp (m : M) : Int := m.d + m.e
def dgr (m : M) : Int := m.x + m.y + m.d + m.e
/-- the most that is counted in the first terms; -1 of none. -/
def mostL (q : M → Int) (f : Nat → T) : Nat → Int
  | 0 => -1
  | i + 1 => if mostL q f i < q (f i).m then q (f i).m else mostL q f i
theorem most_max (q : M → Int) (f : Nat → T) (k : Nat) : max (mostL q f k) (q (f k).m) = mostL q f (k + 1) := by
  show _ = if mostL q f k < q (f k).m then q (f k).m else mostL q f k
  split <;> omega
def filMost (q : M → Int) (n : Nat) (f : Nat → T) : Int := if polOk n f = true then mostL q f n else -1
/-- those of the first terms that are wanted. -/
def wantL (p : T → Bool) (f : Nat → T) : Nat → List T
  | 0 => []
  | i + 1 => if p (f i) = true then wantL p f i ++ [f i] else wantL p f i
theorem wantL_len (p : T → Bool) (f : Nat → T) : ∀ i, (wantL p f i).length ≤ i
  | 0 => Nat.le_refl _
  | i + 1 => by
    have := wantL_len p f i
    unfold wantL
    split
    · rw [List.length_append]; simp; omega
    · omega
def filWith (q : M → Int) (v : Int) (f : Nat → T) (n : Nat) : List T := if polOk n f = true then wantL (fun t => q t.m == v) f n else []
theorem polOk_n {n : Nat} {f : Nat → T} (h : polOk n f = true) : n ≤ 400 := by simp only [polOk, decide_eq_true_eq] at h; exact h.1
theorem filWith_len (q : M → Int) (v : Int) (f : Nat → T) (n : Nat) : (filWith q v f n).length ≤ 400 := by
  unfold filWith
  split
  · rename_i h
    exact Nat.le_trans (wantL_len _ f n) (polOk_n h)
  · simp
/-- what a function counts in a monomial that is ok. -/
def Counts (g : Nat) (q : M → Int) : Prop := ∀ (m : M) (W : World), m.ok = true → Calls Try.prog g #[.agg #[.int .i64 m.x, .int .i64 m.y, .int .i64 m.d, .int .i64 m.e]] W fun r w' => r = .returned (.int .i64 (q m)) ∧ Below W.heap.size W w'
theorem degreeC : Counts 59 dgr := fun m W h => degreeI m.x m.y m.d m.e W h
/-- a function that says which of the terms are wanted, wherever Q is. -/
def Wants (g : Nat) (lb : Array Value) (p : T → Bool) (Q : World → Prop) (f : Nat → T) (n : Nat) : Prop :=
  ∀ (k : Nat) (W : World), k < n → Q W → Calls Try.prog g (#[.agg #[.int .i64 (f k).c, .int .i64 (f k).m.x, .int .i64 (f k).m.y, .int .i64 (f k).m.d, .int .i64 (f k).m.e]] ++ lb) W fun r w' => r = .returned (.bool (p (f k))) ∧ Below W.heap.size W w'
set_option maxRecDepth 100000 in
set_option maxHeartbeats 8000000 in
theorem keepIfI (w : World) (a : Option Addr) (n cap : Nat) (f : Nat → T) (g : Nat) (lb : Array Value) (p : T → Bool) (Q : World → Prop) (eg : ∀ args w, (callFunc g args).run Try.prog w = .ok (.enter g args) w) (hW : Wants g lb p Q f n) (hQ : ∀ W', Below w.heap.size w W' → Q W') (h : Rd w a n cap f) (hl : n ≤ 400) :
    Calls Try.prog 75 #[.slice a n cap, .func (.func g) #[] lb] w fun r w' => ∃ v, r = .returned v ∧ Below w.heap.size w w' ∧ w'.ownsRow w.heap.size 36 5 v (wantL p f n).length (cellsL (wantL p f n)) := by
  obtain ⟨i0, hi0, hz0, hz1, hz2⟩ := info_parts infoT
  have HA := Hid.mk' h
  have HW := Hid.mk' hW
  have HQ := Hid.mk' hQ
  have hn : (n : Int) ≤ 400 := by omega
  clear h hW hQ
  go_enter Try.func75, Try.ntmps75
  go_wp2
  go_loopw [5, 10] (fun v i wr => ∃ k : Nat, k ≤ n ∧ i = .int .i64 (k : Int) ∧ Below w.heap.size w wr ∧ wr.ownsRow w.heap.size 36 5 v (wantL p f k).length (cellsL (wantL p f k))) (fun _ i _ => n - (intOf i).toNat)
  case atStart => exact ⟨0, Nat.zero_le _, rfl, Below.refl _ _, ownsT_nil w _⟩
  case round =>
    obtain ⟨k, hk, rfl, hB, hown⟩ := hrel
    by_cases hlt : k < n
    · have hkn : (k : Int) < (n : Int) := by omega
      have hwl := wantL_len p f k
      have hri := HA.out.below hB
      rcases hri.2.2 with h0 | ⟨b, off, hpe, hblt, hcl⟩
      · omega
      obtain ⟨g0, g1, g2, g3, g4⟩ := hcl k hlt
      have HB2 := Hid.mk' (bel_next hB (bel_one wr (.cells #[.int .i64 (f k).c, .int .i64 (f k).m.x, .int .i64 (f k).m.y, .int .i64 (f k).m.d, .int .i64 (f k).m.e] 36)))
      have HCALL := Hid.mk' (HW.out k (wr.alloc (.cells #[.int .i64 (f k).c, .int .i64 (f k).m.x, .int .i64 (f k).m.y, .int .i64 (f k).m.d, .int .i64 (f k).m.e] 36)) hlt (HQ.out _ HB2.out))
      have HO := Hid.mk' (owns_below hown (bel_one wr (.cells #[.int .i64 (f k).c, .int .i64 (f k).m.x, .int .i64 (f k).m.y, .int .i64 (f k).m.d, .int .i64 (f k).m.e] 36)))
      have HBX : Hid (Cells (wr.alloc (.cells #[.int .i64 (f k).c, .int .i64 (f k).m.x, .int .i64 (f k).m.y, .int .i64 (f k).m.d, .int .i64 (f k).m.e] 36)) wr.heap.size 0 (f k)) := by
        refine ⟨?_, ?_, ?_, ?_, ?_⟩ <;> (rw [World.cell?_alloc_at _ _ _ _ rfl]; rfl)
      have hsz : wr.heap.size < (wr.alloc (.cells #[.int .i64 (f k).c, .int .i64 (f k).m.x, .int .i64 (f k).m.y, .int .i64 (f k).m.d, .int .i64 (f k).m.e] 36)).heap.size := by simp
      have HSZ := Hid.mk' hsz
      clear hcl hri hown hB hsz
      subst hpe
      cases hpk : p (f k)
      · have e2 : wantL p f (k + 1) = wantL p f k := by simp [wantL, hpk]
        have HE := Hid.mk' e2
        clear e2
        go_wp2_with fail
        refine HCALL.out.mono ?_
        rw [hpk]
        rintro r w4 ⟨rfl, hb4⟩
        have HB4 := Hid.mk' (bel_next HB2.out hb4)
        have HO4 := Hid.mk' (owns_below HO.out hb4)
        clear hb4
        go_wp2
        go_roundw
        case rel => exact ⟨k + 1, by omega, by go_num, HB4.out, by rw [HE.out]; exact HO4.out⟩
        case measure => simp [intOf]; omega
      · have e2 : wantL p f (k + 1) = wantL p f k ++ [f k] := by simp [wantL, hpk]
        have HE := Hid.mk' e2
        clear e2
        go_wp2_with fail
        refine HCALL.out.mono ?_
        rw [hpk]
        rintro r w4 ⟨rfl, hb4⟩
        have hB4 := bel_next HB2.out hb4
        have hO4 := owns_below HO.out hb4
        obtain ⟨x0, x1, x2, x3, x4⟩ := HBX.out.below hb4 HSZ.out
        clear hb4 g0 g1 g2 g3 g4
        go_wp2_with (at_builtin; refine wpList_append_lies _ rfl (.tmp 17) (.tmp 19) 23 rfl w.heap.size 36 i0 _ 5 40 Try.underlying23 hi0 hz0 hz1 hz2 rfl (by omega) _ (wantL p f k).length (cellsL (wantL p f k)) rfl (hO4.alloc _) ⟨w4.heap.size, 0, none⟩ 1 1 (cellsL [f k]) rfl (by rw [cellsL_length]; rfl) (by rw [cellsL_one]; exact World.news_of_block (heap_alloc_new w4 _)) (one_cells _) (by omega) (by unfold maxLen; omega) (by omega) (by have := hB4.size; simp; omega) _ rfl ?_; intro g0 cap0 w1 hown1 hgrow hat hlt1; have HB := Hid.mk' ((hB4.alloc hB4.size _).grown hgrow (Nat.le_trans hB4.size (by simp)) (fun k hk => (hO4.lt k hk).1)); have HO1 := Hid.mk' hown1; clear hown1 hgrow hat hlt1 hO4)
        go_roundw
        case rel => exact ⟨k + 1, by omega, by go_num, HB.out, by rw [HE.out, cellsL_append, List.length_append]; exact HO1.out⟩
        case measure => simp [intOf]; omega
    · obtain rfl : k = n := by omega
      go_wp2
      go_ret
      exact ⟨_, rfl, hB, hown⟩
theorem boxes_kept {w w1 W' : World} {A B : Value} {tA tB : TypeId} (h1 : Below ((w.alloc (.cells #[A] tA)).alloc (.cells #[B] tB)).heap.size ((w.alloc (.cells #[A] tA)).alloc (.cells #[B] tB)) w1) (hb : Below w1.heap.size w1 W') : W'.cell? ⟨w.heap.size, 0, none⟩ = some A ∧ W'.cell? ⟨w.heap.size + 1, 0, none⟩ = some B := by
  have hs : ((w.alloc (.cells #[A] tA)).alloc (.cells #[B] tB)).heap.size = w.heap.size + 2 := by simp
  have hl : w.heap.size + 2 ≤ w1.heap.size := by rw [← hs]; exact h1.size
  refine ⟨(hb.cell (p := ⟨w.heap.size, 0, none⟩) (show w.heap.size < w1.heap.size by omega)).trans ((h1.cell (p := ⟨w.heap.size, 0, none⟩) (by rw [hs]; show w.heap.size < _; omega)).trans ?_), (hb.cell (p := ⟨w.heap.size + 1, 0, none⟩) (show w.heap.size + 1 < w1.heap.size by omega)).trans ((h1.cell (p := ⟨w.heap.size + 1, 0, none⟩) (by rw [hs]; show w.heap.size + 1 < _; omega)).trans ?_)⟩
  · have : Below (w.alloc (.cells #[A] tA)).heap.size (w.alloc (.cells #[A] tA)) ((w.alloc (.cells #[A] tA)).alloc (.cells #[B] tB)) := (Below.refl _ _).alloc (Nat.le_refl _) _
    refine (this.cell (p := ⟨w.heap.size, 0, none⟩) (by simp)).trans ?_
    rw [World.cell?_alloc_at _ _ _ _ rfl]; rfl
  · have e : w.heap.size + 1 = (w.alloc (.cells #[A] tA)).heap.size := by simp
    rw [e, World.cell?_alloc_at _ _ _ _ rfl]; rfl
set_option maxHeartbeats 2000000 in
theorem filWith1_dg (t : T) (v : Int) (B1 B2 : Nat) (W : World) (h1 : W.cell? ⟨B1, 0, none⟩ = some (.func (.func 59) #[] #[])) (h2 : W.cell? ⟨B2, 0, none⟩ = some (.int .i64 v)) (hm : t.m.ok = true) :
    Calls Try.prog 76 #[.agg #[.int .i64 t.c, .int .i64 t.m.x, .int .i64 t.m.y, .int .i64 t.m.d, .int .i64 t.m.e], .pointer (some ⟨B1, 0, none⟩), .pointer (some ⟨B2, 0, none⟩)] W fun r w' => r = .returned (.bool (dgr t.m == v)) ∧ Below W.heap.size W w' := by
  have l1 := World.block_lt_of_cell? W _ h1
  have l2 := World.block_lt_of_cell? W _ h2
  have HK := Hid.mk' hm
  have B1w := Hid.mk' (bel_one W (.cells #[.int .i64 t.c, .int .i64 t.m.x, .int .i64 t.m.y, .int .i64 t.m.d, .int .i64 t.m.e] 36))
  have ne := Ext.there (W.alloc (.cells #[.int .i64 t.c, .int .i64 t.m.x, .int .i64 t.m.y, .int .i64 t.m.d, .int .i64 t.m.e] 36))
  have s1 := ext_box (w := W) (t := 36) #[.int .i64 t.c, .int .i64 t.m.x, .int .i64 t.m.y, .int .i64 t.m.d, .int .i64 t.m.e] 1 _ rfl
  have s2 := ext_box (w := W) (t := 36) #[.int .i64 t.c, .int .i64 t.m.x, .int .i64 t.m.y, .int .i64 t.m.d, .int .i64 t.m.e] 2 _ rfl
  have s3 := ext_box (w := W) (t := 36) #[.int .i64 t.c, .int .i64 t.m.x, .int .i64 t.m.y, .int .i64 t.m.d, .int .i64 t.m.e] 3 _ rfl
  have s4 := ext_box (w := W) (t := 36) #[.int .i64 t.c, .int .i64 t.m.x, .int .i64 t.m.y, .int .i64 t.m.d, .int .i64 t.m.e] 4 _ rfl
  have c1 : ∀ u : Ext (W.alloc (.cells #[.int .i64 t.c, .int .i64 t.m.x, .int .i64 t.m.y, .int .i64 t.m.d, .int .i64 t.m.e] 36)), u.1.cell? ⟨B1, 0, none⟩ = some (.func (.func 59) #[] #[]) := fun u => (u.cell (Nat.lt_of_lt_of_le l1 B1w.out.size)).trans ((B1w.out.cell (p := ⟨B1, 0, none⟩) l1).trans h1)
  have c2 : ∀ u : Ext (W.alloc (.cells #[.int .i64 t.c, .int .i64 t.m.x, .int .i64 t.m.y, .int .i64 t.m.d, .int .i64 t.m.e] 36)), u.1.cell? ⟨B2, 0, none⟩ = some (.int .i64 v) := fun u => (u.cell (Nat.lt_of_lt_of_le l2 B1w.out.size)).trans ((B1w.out.cell (p := ⟨B2, 0, none⟩) l2).trans h2)
  clear h1 h2 l1 l2 hm
  go_enter Try.func76, Try.ntmps76
  go_wp2_with fail
  refine wp_region_ext (by kernel_rfl) (by kernel_rfl) ?_
  repeat (go_big_quiet_step ((go_at_call 59; exact ext_grows (degreeC t.m _ HK.out))))
  refine wpQuiet_nil ?_
  rintro _ ⟨u, rfl⟩
  go_wp2
  go_ret
  exact ⟨rfl, B1w.out.trans (u.2.mono B1w.out.size)⟩
set_option maxRecDepth 100000 in
set_option maxHeartbeats 4000000 in
theorem filWith_dgI (w : World) (a : Option Addr) (n cap : Nat) (f : Nat → T) (v : Int) (h : Rd w a n cap f) :
    Calls Try.prog 58 #[.slice a n cap, .func (.func 59) #[] #[], .int .i64 v] w fun r w' => ∃ v', r = .returned v' ∧ Below w.heap.size w w' ∧ w'.ownsRow w.heap.size 36 5 v' (filWith dgr v f n).length (cellsL (filWith dgr v f n)) := by
  have HA := Hid.mk' h
  clear h
  cases hp : polOk n f
  · have e1 : filWith dgr v f n = [] := by simp [filWith, hp]
    rw [e1]
    go_enter Try.func58, Try.ntmps58
    go_wp2_with (go_at_call 38; refine (polOkI _ _ _ _ f (HA.out.below (bel_two w _ _))).mono ?_; rw [hp]; rintro r w1 ⟨rfl, hb1⟩; have HB1 := Hid.mk' (bel_next (bel_two w _ _) hb1); clear hb1)
    go_ret
    exact ⟨_, rfl, HB1.out, ownsT_nil w1 _⟩
  · have e1 : filWith dgr v f n = wantL (fun t => dgr t.m == v) f n := by simp [filWith, hp]
    rw [e1]
    have HM := Hid.mk' (polOk_m hp)
    have hl := polOk_n hp
    go_enter Try.func58, Try.ntmps58
    go_wp2_with (first
      | (go_at_call 38; refine (polOkI _ _ _ _ f (HA.out.below (bel_two w _ _))).mono ?_; rw [hp]; rintro r w1 ⟨rfl, hb1⟩; have HB1 := Hid.mk' hb1; clear hb1)
      | (go_at_call 75; refine (keepIfI w1 a n cap f 76 #[.pointer (some ⟨w.heap.size, 0, none⟩), .pointer (some ⟨w.heap.size + 1, 0, none⟩)] (fun t => dgr t.m == v) (fun W => W.cell? ⟨w.heap.size, 0, none⟩ = some (.func (.func 59) #[] #[]) ∧ W.cell? ⟨w.heap.size + 1, 0, none⟩ = some (.int .i64 v)) (enters_of Try.func76 (by kernel_rfl) rfl) (fun k W hk hQ => filWith1_dg (f k) v _ _ W hQ.1 hQ.2 (HM.out k hk)) (fun W' hb => boxes_kept HB1.out hb) ((HA.out.below (bel_two w _ _)).below HB1.out) hl).mono ?_; rintro r w2 ⟨v2, rfl, hb2, ho2⟩))
    go_ret
    exact ⟨_, rfl, bel_next (bel_next (bel_two w _ _) HB1.out) hb2, owns_lower ho2 (bel_next (bel_two w _ _) HB1.out).size⟩
def filSymbol (f : Nat → T) (n : Nat) : List T := filWith slp (filMost slp n f) f n
theorem filSymbol_len (f : Nat → T) (n : Nat) : (filSymbol f n).length ≤ 400 := filWith_len _ _ _ _
def filPart (f : Nat → T) (n : Nat) (v : Int) : List T := filWith dgr v f n
theorem filPart_len (f : Nat → T) (n : Nat) (v : Int) : (filPart f n v).length ≤ 400 := filWith_len _ _ _ _
theorem filPartI (w : World) (a : Option Addr) (n cap : Nat) (f : Nat → T) (v : Int) (h : Rd w a n cap f) :
    Calls Try.prog 31 #[.slice a n cap, .int .i64 v] w fun r w' => ∃ a' cap', r = .returned (.slice a' (filPart f n v).length cap') ∧ Below w.heap.size w w' ∧ Out w.heap.size w' a' cap' (filPart f n v) := by
  have hc := filWith_dgI w a n cap f v h
  go_enter Try.func31, Try.ntmps31
  go_wp2_with (go_at_call 58; refine hc.mono ?_; rintro r w2 ⟨v2, rfl, hb2, ho2⟩)
  go_ret
  obtain ⟨a', cap', rfl, hout⟩ := out_of_owns ho2 (by have := filWith_len dgr v f n; omega)
  exact ⟨a', cap', rfl, hb2, hout⟩
end Go.Proofs.Ytnfimnfaejjagaa
