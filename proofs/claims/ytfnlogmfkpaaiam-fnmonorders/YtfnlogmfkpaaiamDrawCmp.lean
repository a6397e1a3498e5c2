/-
  The draw of an order and two monomials.
-/
import Derived.Test.YtfnlogmfkpaaiamRegInv
namespace Go.Proofs.Ytfnlogmfkpaaiam
open Go.RowKit
set_option linter.unusedVariables false

set_option maxRecDepth 100000 in
set_option maxHeartbeats 8000000 in
theorem drawMonCmp (w : World) (a : Option Addr) (len cap : Nat) (h : Src w a len cap) :
    Calls Try.prog 7 #[.slice a len cap] w fun e w' => ∃ o x y d z x' y' d' z', e = .returned (.tuple #[.int .i64 o, .agg #[.int .i64 x, .int .i64 y, .int .i64 d, .int .i64 z], .agg #[.int .i64 x', .int .i64 y', .int .i64 d', .int .i64 z']]) ∧ Below w.heap.size w w' := by
  have hb0 : Below w.heap.size w ((w.alloc (.cells #[.int .i64 0, .int .i64 0, .int .i64 0, .int .i64 0] 24)).alloc (.cells #[.int .i64 0, .int .i64 0, .int .i64 0, .int .i64 0] 24)) := ((Below.refl _ _).alloc (Nat.le_refl _) _).alloc (by simp) _
  have hsz0 : ((w.alloc (.cells #[.int .i64 0, .int .i64 0, .int .i64 0, .int .i64 0] 24)).alloc (.cells #[.int .i64 0, .int .i64 0, .int .i64 0, .int .i64 0] 24)).heap.size > w.heap.size + 1 := by simp
  have wa : W4 ((w.alloc (.cells #[.int .i64 0, .int .i64 0, .int .i64 0, .int .i64 0] 24)).alloc (.cells #[.int .i64 0, .int .i64 0, .int .i64 0, .int .i64 0] 24)) w.heap.size := (w4_new w _).below ((Below.refl _ _).alloc (Nat.le_refl _) _) (by simp)
  have wb : W4 ((w.alloc (.cells #[.int .i64 0, .int .i64 0, .int .i64 0, .int .i64 0] 24)).alloc (.cells #[.int .i64 0, .int .i64 0, .int .i64 0, .int .i64 0] 24)) (w.heap.size + 1) := by
    have := w4_new (w.alloc (.cells #[.int .i64 0, .int .i64 0, .int .i64 0, .int .i64 0] 24)) 24
    simpa using this
  have s0 := h.below hb0
  go_enter Try.func7, Try.ntmps7
  go_wp2_with fail
  generalize ((w.alloc (.cells #[.int .i64 0, .int .i64 0, .int .i64 0, .int .i64 0] 24)).alloc (.cells #[.int .i64 0, .int .i64 0, .int .i64 0, .int .i64 0] 24)) = W at hb0 hsz0 wa wb s0 ⊢
  refine (open_any _ _ _ _ s0).mono ?_
  rintro e w1 ⟨rfl, hR0, b1⟩
  have wa1 := wa.below b1 (by omega)
  have wb1 := wb.below b1 (by omega)
  have hbz0 := hb0.trans (b1.mono hb0.size)
  have hN0 : w1.heap.size ≤ w1.heap.size := Nat.le_refl _
  have hBN := hR0.lt
  have hB0 : w.heap.size ≤ W.heap.size := by omega
  have hG0 : ∀ g ∈ [w.heap.size, w.heap.size + 1], W4 w1 g := by
    intro g hg
    simp at hg
    rcases hg with rfl | rfl
    · exact wa1
    · exact wb1
  have hBG : ∀ g ∈ [w.heap.size, w.heap.size + 1], g ≠ W.heap.size := by
    intro g hg
    simp at hg
    omega
  clear h wa wb s0 b1 hb0 wa1 wb1
  go_wp2_with fail
  refine Code.wp_mono (Q := fun e b u => e = Exit.normal ∧ ∃ (vs : Nat → Value), b = { tmps := #[Value.slice a len cap, undef, vs 10, Value.pointer (some ⟨w.heap.size, 0, none⟩), Value.pointer (some ⟨w.heap.size + 1, 0, none⟩), Value.pointer (some ⟨W.heap.size, 0, none⟩), Value.slice a len cap, Value.pointer (some ⟨W.heap.size, 0, none⟩), vs 0, vs 1, vs 2, vs 3, vs 4, vs 5, vs 6, vs 7, vs 8, vs 9], defers := [] } ∧ Ld (vs 10) ∧ Below w.heap.size w u ∧ W4 u w.heap.size ∧ W4 u (w.heap.size + 1)) ?_ ?_
  rotate_left
  · skip
    refine wp_region_ri (fun vs : Nat → Value => ({ tmps := #[Value.slice a len cap, undef, vs 10, Value.pointer (some ⟨w.heap.size, 0, none⟩), Value.pointer (some ⟨w.heap.size + 1, 0, none⟩), Value.pointer (some ⟨W.heap.size, 0, none⟩), Value.slice a len cap, Value.pointer (some ⟨W.heap.size, 0, none⟩), vs 0, vs 1, vs 2, vs 3, vs 4, vs 5, vs 6, vs 7, vs 8, vs 9], defers := [] } : Act)) (fun k => match k with | 0 => SK.sl 5 | 1 => SK.rd | 2 => SK.pk 16 | 3 => SK.pk 5 | 4 => SK.ix | 5 => SK.ld | 6 => SK.rd | 7 => SK.ag | 8 => SK.rd | 9 => SK.ag | 10 => SK.ld | 11 => SK.no | 12 => SK.no | _ => SK.no) 13 10 (W.heap.size) (0) (w1.heap.size) [w.heap.size, w.heap.size + 1] w (by kernel_rfl) ?_ ?_ ?_
    · exact RI.start (fun k => if k = 10 then .int .i64 0 else undef) rfl hR0 hbz0 hN0 hG0
    · intro l a u hI i hi
      obtain ⟨q, vs, rfl, hR, hq, hbz, hN, hG, hsz, hcl, hf⟩ := hI
      have hl0 := (mem_ready.1 hi).1
      have hund1 : 1 ≤ undone l := by have := undone_set (getD_false hl0); omega
      have hi13 : i < 13 := by
        obtain ⟨_, o, ho, _⟩ := mem_ready.1 hi
        exact (Array.getElem?_eq_some_iff.1 ho).1
      rcases (show i = 0 ∨ i = 1 ∨ i = 2 ∨ i = 3 ∨ i = 4 ∨ i = 5 ∨ i = 6 ∨ i = 7 ∨ i = 8 ∨ i = 9 ∨ i = 10 ∨ i = 11 ∨ i = 12 from by omega) with rfl | rfl | rfl | rfl | rfl | rfl | rfl | rfl | rfl | rfl | rfl | rfl | rfl
      · refine wpOp_step rfl (fun K hK => ?_)
        go_simp
        refine hK _ _ ?_
        exact RI.step (q' := q) 0 (.slice (some ⟨u.heap.size, 0, none⟩) 5 5) hBN hB0 hBG hi rfl hq (rdr_keep (by decide) (fun h => (hR h).alloc _)) (by omega) hbz hN hG hsz hcl hf (bes_alloc _ u _) (sl_new5 u _ _ _ _ _ _ _  hN) rfl
      · refine wpOp_step rfl (fun K hK => ?_)
        go_simp
        refine hK _ _ ?_
        exact RI.step (q' := q) 1 (.pointer (some ⟨W.heap.size, 0, none⟩)) hBN hB0 hBG hi rfl hq (rdr_keep (by decide) (fun h => hR h)) (by omega) hbz hN hG hsz hcl hf (Beside.refl _ u) rfl rfl
      · have e1 : vs 1 = .pointer (some ⟨W.heap.size, 0, none⟩) := hf 1 (ready_dep hi rfl 1 (by kernel_rfl))
        have hSf : l.getD 10 false = false := by
          cases hx : l.getD 10 false
          · rfl
          · have hx0 := hcl.dep (i := 10) rfl hx 9 (by kernel_rfl)
            have hx1 := hcl.dep (i := 9) rfl hx0 7 (by kernel_rfl)
            have hx2 := hcl.dep (i := 7) rfl hx1 2 (by kernel_rfl)
            exact (not_done hl0 hx2).elim
        have hR1 := hR hSf
        refine wpOp_step rfl (fun K hK => ?_)
        go_simp
        refine (pick_any u _ q 16 hR1 (by omega) (by omega) (by omega)).mono ?_
        rintro e u' ⟨x, rfl, x0, x1, hk⟩
        refine hK _ _ ?_
        exact RI.step (q' := q + 1) 2 (.int .i64 x) hBN hB0 hBG hi rfl hq (rdr_keep (by decide) (fun h => hk.rdr hR1)) (by omega) hbz hN hG hsz hcl hf hk.beside ⟨x.toNat, by omega, by rw [Int.toNat_of_nonneg x0]⟩ (by first | (rw [← e1]; done) | (rw [← e1]; rfl))
      · obtain ⟨j, hj, e1⟩ : Pk 16 (vs 2) := hf 2 (ready_dep hi rfl 2 (by kernel_rfl))
        have hjm : (j : Int).tmod 5 = ((j % 5 : Nat) : Int) := by rw [Int.tmod_eq_emod_of_nonneg (by omega)]; omega
        have hj5 : j % 5 < 5 := Nat.mod_lt _ (by omega)
        refine wpOp_step rfl (fun K hK => ?_)
        go_simp
        refine hK _ _ ?_
        exact RI.step (q' := q) 3 (.int .i64 ((j % 5 : Nat) : Int)) hBN hB0 hBG hi rfl hq (rdr_keep (by decide) (fun h => hR h)) (by omega) hbz hN hG hsz hcl hf (Beside.refl _ u) ⟨j % 5, hj5, rfl⟩ (by first | (rw [← e1]; done) | (rw [← e1]; rfl))
      · obtain ⟨b, e1, hb, hcb⟩ : Sl u (w1.heap.size) 5 (vs 0) := hf 0 (ready_dep hi rfl 0 (by kernel_rfl))
        obtain ⟨j, hj, e2⟩ : Pk 5 (vs 3) := hf 3 (ready_dep hi rfl 3 (by kernel_rfl))
        obtain ⟨x, hx⟩ := hcb j hj
        have hji : (j : Int) < 5 := by omega
        clear hcb
        refine wpOp_step rfl (fun K hK => ?_)
        go_simp
        refine hK _ _ ?_
        exact RI.step (q' := q) 4 (.pointer (some ⟨b, j, none⟩)) hBN hB0 hBG hi rfl hq (rdr_keep (by decide) (fun h => hR h)) (by omega) hbz hN hG hsz hcl hf (Beside.refl _ u) ⟨b, j, x, rfl, hb, hx⟩ (by first | (rw [← e1, ← e2]; done) | (rw [← e1, ← e2]; rfl))
      · obtain ⟨b, j, x, e1, hb, hx⟩ : Ix u (w1.heap.size) (vs 4) := hf 4 (ready_dep hi rfl 4 (by kernel_rfl))
        refine wpOp_step rfl (fun K hK => ?_)
        go_simp
        refine hK _ _ ?_
        exact RI.step (q' := q) 5 (.int .i64 x) hBN hB0 hBG hi rfl hq (rdr_keep (by decide) (fun h => hR h)) (by omega) hbz hN hG hsz hcl hf (Beside.refl _ u) ⟨x, rfl⟩ (by first | (rw [← e1]; done) | (rw [← e1]; rfl))
      · refine wpOp_step rfl (fun K hK => ?_)
        go_simp
        refine hK _ _ ?_
        exact RI.step (q' := q) 6 (.pointer (some ⟨W.heap.size, 0, none⟩)) hBN hB0 hBG hi rfl hq (rdr_keep (by decide) (fun h => hR h)) (by omega) hbz hN hG hsz hcl hf (Beside.refl _ u) rfl rfl
      · have e1 : vs 6 = .pointer (some ⟨W.heap.size, 0, none⟩) := hf 6 (ready_dep hi rfl 6 (by kernel_rfl))
        have hSf : l.getD 10 false = false := by
          cases hx : l.getD 10 false
          · rfl
          · have hx0 := hcl.dep (i := 10) rfl hx 9 (by kernel_rfl)
            have hx1 := hcl.dep (i := 9) rfl hx0 7 (by kernel_rfl)
            exact (not_done hl0 hx1).elim
        have hR1 := hR hSf
        refine wpOp_step rfl (fun K hK => ?_)
        go_simp
        refine (mon_any u _ q 24 hR1 (by omega) (by omega) (by omega)).mono ?_
        rintro e u' ⟨x0, x1, x2, x3, q', rfl, hq', hr', hk⟩
        refine hK _ _ ?_
        exact RI.step (q' := q') 7 (.agg #[.int .i64 x0, .int .i64 x1, .int .i64 x2, .int .i64 x3]) hBN hB0 hBG hi rfl hq (rdr_keep (by decide) (fun h => hr')) (by omega) hbz hN hG hsz hcl hf hk ⟨x0, x1, x2, x3, rfl⟩ (by first | (rw [← e1]; done) | (rw [← e1]; rfl))
      · refine wpOp_step rfl (fun K hK => ?_)
        go_simp
        refine hK _ _ ?_
        exact RI.step (q' := q) 8 (.pointer (some ⟨W.heap.size, 0, none⟩)) hBN hB0 hBG hi rfl hq (rdr_keep (by decide) (fun h => hR h)) (by omega) hbz hN hG hsz hcl hf (Beside.refl _ u) rfl rfl
      · have e1 : vs 8 = .pointer (some ⟨W.heap.size, 0, none⟩) := hf 8 (ready_dep hi rfl 8 (by kernel_rfl))
        have hSf : l.getD 10 false = false := by
          cases hx : l.getD 10 false
          · rfl
          · have hx0 := hcl.dep (i := 10) rfl hx 9 (by kernel_rfl)
            exact (not_done hl0 hx0).elim
        have hR1 := hR hSf
        refine wpOp_step rfl (fun K hK => ?_)
        go_simp
        refine (mon_any u _ q 24 hR1 (by omega) (by omega) (by omega)).mono ?_
        rintro e u' ⟨x0, x1, x2, x3, q', rfl, hq', hr', hk⟩
        refine hK _ _ ?_
        exact RI.step (q' := q') 9 (.agg #[.int .i64 x0, .int .i64 x1, .int .i64 x2, .int .i64 x3]) hBN hB0 hBG hi rfl hq (rdr_keep (by decide) (fun h => hr')) (by omega) hbz hN hG hsz hcl hf hk ⟨x0, x1, x2, x3, rfl⟩ (by first | (rw [← e1]; done) | (rw [← e1]; rfl))
      · obtain ⟨x, e1⟩ : Ld (vs 5) := hf 5 (ready_dep hi rfl 5 (by kernel_rfl))
        refine wpOp_step rfl (fun K hK => ?_)
        go_simp
        refine hK _ _ ?_
        exact RI.step (q' := q) 10 (.int .i64 x) hBN hB0 hBG hi rfl hq (rdr_gone (by omega)) (by omega) hbz hN hG hsz hcl hf (Beside.refl _ u) ⟨x, rfl⟩ (by first | (rw [← e1]; done) | (rw [← e1]; rfl))
      · obtain ⟨x0, x1, x2, x3, e1⟩ : Ag (vs 7) := hf 7 (ready_dep hi rfl 7 (by kernel_rfl))
        have hSt : l.getD 10 false = true := ready_dep hi rfl 10 (by kernel_rfl)
        obtain ⟨⟨y0, y1, y2, y3, c0, c1, c2, c3⟩, f0, f1, f2, f3⟩ := hG (w.heap.size) (by simp)
        refine wpOp_step rfl (fun K hK => ?_)
        go_simp
        refine hK _ _ ?_
        exact RI.store 11 (g := w.heap.size) (by simp) (by omega) (by omega) hSt (by decide) hi rfl hq hbz hN hG hsz hcl hf rfl (by first | (rw [← e1]; done) | (rw [← e1]; rfl))
      · obtain ⟨x0, x1, x2, x3, e1⟩ : Ag (vs 9) := hf 9 (ready_dep hi rfl 9 (by kernel_rfl))
        have hSt : l.getD 10 false = true := ready_dep hi rfl 10 (by kernel_rfl)
        obtain ⟨⟨y0, y1, y2, y3, c0, c1, c2, c3⟩, f0, f1, f2, f3⟩ := hG (w.heap.size + 1) (by simp)
        refine wpOp_step rfl (fun K hK => ?_)
        go_simp
        refine hK _ _ ?_
        exact RI.store 12 (g := w.heap.size + 1) (by simp) (by omega) (by omega) hSt (by decide) hi rfl hq hbz hN hG hsz hcl hf rfl (by first | (rw [← e1]; done) | (rw [← e1]; rfl))
    · intro l a u hI hr
      obtain ⟨q, vs, rfl, hR, hq, hbz, hN, hG, hsz, hcl, hf⟩ := hI
      have hall := all_done (by kernel_rfl) hr hsz
      exact ⟨rfl, vs, rfl, hf 10 (hall 10 (by decide)), hbz, hG _ (by simp), hG _ (by simp)⟩
  · rintro e b u ⟨rfl, vs, rfl, ⟨x, e10⟩, hbz, ⟨⟨a0, a1, a2, a3, c0, c1, c2, c3⟩, f0, f1, f2, f3⟩, ⟨⟨b0, b1, b2, b3, d0, d1, d2, d3⟩, t0, t1, t2, t3⟩⟩
    rw [e10]
    clear hG0 hBG hR0 hbz0 hN0
    go_wp2
    try simp only [Exit.inBlock, Exit.then]
    refine bodyPost_ret (v := .tuple #[.int .i64 x, .agg #[.int .i64 a0, .int .i64 a1, .int .i64 a2, .int .i64 a3], .agg #[.int .i64 b0, .int .i64 b1, .int .i64 b2, .int .i64 b3]]) (by simp [results, Try.results7, go_sem, *]) rfl ?_
    exact ⟨_, _, _, _, _, _, _, _, _, rfl, hbz⟩
end Go.Proofs.Ytfnlogmfkpaaiam
