/-
  The draw of an operator, one in so many with something wrong, also where much has been drawn before. Lists of operators are drawn (spec.l20List), also where the reader has come further. A basis, and operators, often those that were given, are drawn (spec.DrawGrbProves). The walk of FnGrbProves: whatever the code, it comes out true, and nothing that was there is turned.
-/
import Derived.Test.YtmlaedpamobmhaaGreatPax
import Derived.Test.YtmlaedpamobmhaaGreatPbf
import Derived.Deep.RegionHeld3
import Derived.Deep.Light
import Derived.Deep.AppendLies
import Derived.Test.YtmlaedpamobmhaaGreatPbv
import Derived.Test.YtmlaedpamobmhaaGreatPbz
import Derived.Test.YtmlaedpamobmhaaGreatMkO
import Derived.Test.YtmlaedpamobmhaaGreatPba
import Derived.Test.YtmlaedpamobmhaaGreatPay
namespace Go.Proofs.YtmlaedpamobmhaaGreat
open Go.RowKit
set_option linter.unusedVariables false
set_option maxRecDepth 100000 in
set_option maxHeartbeats 8000000 in
theorem any_any5 (w : World) (B p : Nat) (n : Int) (h : Rdr w B p) (hn : 1 ≤ n) (hn' : n ≤ 1000) (hp : p ≤ 5000) :
    Calls Tryz.prog 79 #[.pointer (some ⟨B, 0, none⟩), .int .i64 n] w fun r w' => ∃ (a : Option Addr) (m cap : Nat) (f : Nat → T) (q : Nat), r = .returned (.slice a m cap) ∧ Rd w' a m cap f ∧ m ≤ 5 ∧ (m = 0 ∨ ∃ g off, a = some ⟨g, off, none⟩ ∧ w.heap.size ≤ g) ∧ q ≤ p + 700 ∧ Rdr w' B q ∧ Beside B w w' := by
  have hB := h.lt
  obtain ⟨i0, hi0, hz0, hz1, hz2⟩ := info_parts infoT
  go_enter Tryz.func79, Tryz.ntmps79
  go_wp2_with fail
  refine (pol_any w B p 4 h (by omega) (by omega) (by omega)).mono ?_
  rintro e w1 ⟨v, L, q1, rfl, ho1, hl1, hc1, hq1, hR1, hb1⟩
  obtain ⟨a, cap, rfl, hout1⟩ := out_of_owns ho1 (by omega)
  have HO1 := Hid.mk' ho1
  have HR1 := Hid.mk' hR1
  have HB1 := Hid.mk' hb1
  clear ho1 hR1 hb1 hout1 h hc1
  go_wp2_with fail
  refine (pick_any w1 B q1 n HR1.out (by omega) (by omega) (by omega)).mono ?_
  rintro e w2 ⟨x, rfl, x0, x1, hk⟩
  have HR2 := Hid.mk' (hk.rdr HR1.out)
  have HB2 := Hid.mk' (HB1.out.trans hk.beside)
  have HO2 := Hid.mk' (owns_beside HO1.out hk.beside hB)
  clear hk HR1 HB1 HO1
  by_cases hx : 0 < x
  · have hout := out_of_owns HO2.out (by omega)
    go_wp2
    go_ret
    obtain ⟨a', cap', he, ho⟩ := hout
    cases he
    exact ⟨_, _, _, _, _, rfl, ho.1, by omega, ho.2.2, by omega, HR2.out, HB2.out⟩
  · obtain rfl : x = 0 := by omega
    clear hx
    by_cases hz : L.length = 0
    · have hzb : ((L.length : Int) == 0) = true := by simp [hz]
      clear hz
      go_wp2_with fail
      refine Code.wp_mono (Q := fun e b u => e = Exit.normal ∧ ∃ (q : Nat) (vs : Nat → Value) (L2 : List T), b = { tmps := #[Value.pointer (some ⟨B, 0, none⟩), Value.int IntKind.i64 n, undef, undef, vs 11, Value.slice a L.length cap, Value.pointer (some ⟨B, 0, none⟩), Value.slice a L.length cap, Value.pointer (some ⟨B, 0, none⟩), Value.int IntKind.i64 n, Value.int IntKind.i64 0, Value.bool false, undef, Value.bool true, Value.slice a L.length cap, Value.int IntKind.i64 (L.length : Int), Value.bool true, Value.bool true, undef, undef, undef, Value.bool true, vs 0, vs 1, vs 2, vs 3, vs 4, vs 5, vs 6, vs 7, vs 8, vs 9, vs 10, undef, undef, undef, undef, undef, undef, undef, undef, undef, undef, undef, undef, undef, undef, undef, undef, undef, undef, undef], defers := [] } ∧ Rdr u B q ∧ q ≤ q1 + 1 + 360 ∧ Beside B w u ∧ u.ownsRow w.heap.size 54 5 (vs 11) L2.length (cellsL L2) ∧ L2.length ≤ 5) ?_ ?_
      rotate_left
      · have hBN : B < w2.heap.size := HR2.out.lt
        refine wp_region_ri2 (fun vs : Nat → Value => ({ tmps := #[Value.pointer (some ⟨B, 0, none⟩), Value.int IntKind.i64 n, undef, undef, vs 11, Value.slice a L.length cap, Value.pointer (some ⟨B, 0, none⟩), Value.slice a L.length cap, Value.pointer (some ⟨B, 0, none⟩), Value.int IntKind.i64 n, Value.int IntKind.i64 0, Value.bool false, undef, Value.bool true, Value.slice a L.length cap, Value.int IntKind.i64 (L.length : Int), Value.bool true, Value.bool true, undef, undef, undef, Value.bool true, vs 0, vs 1, vs 2, vs 3, vs 4, vs 5, vs 6, vs 7, vs 8, vs 9, vs 10, undef, undef, undef, undef, undef, undef, undef, undef, undef, undef, undef, undef, undef, undef, undef, undef, undef, undef, undef], defers := [] } : Act)) (fun k => match k with | 0 => SK2.is (.slice a L.length cap) | 1 => SK2.old (SK.sl 4) | 2 => SK2.old SK.rd | 3 => SK2.old (SK.pk 4) | 4 => SK2.old SK.ix | 5 => SK2.old SK.ld | 6 => SK2.old SK.rd | 7 => SK2.old SK.ag | 8 => SK2.a5 | 9 => SK2.s1 | 10 => SK2.own | 11 => SK2.own | _ => SK2.own) 12 10 B (q1 + 1) w2.heap.size (fun u => u.ownsRow w.heap.size 54 5 (.slice a L.length cap) L.length (cellsL L)) (fun u v => ∃ L2, u.ownsRow w.heap.size 54 5 v L2.length (cellsL L2) ∧ L2.length ≤ 5) w (by kernel_rfl) ?_ ?_ ?_
        · exact RI2.start (fun k => if k = 11 then .slice none 0 0 else undef) rfl HR2.out HB2.out (Nat.le_refl _) (owns_below HO2.out (Below.refl _ _).drew)
        · intro l b u hI i hi
          obtain ⟨q, vs, rfl, hR, hq, hbz, hN, hX, hsz, hcl, hf⟩ := hI
          have hl0 := (mem_ready.1 hi).1
          have hund1 : 1 ≤ undone l := by have := undone_set (getD_false hl0); omega
          have hXm : ∀ u u' : World, u.ownsRow w.heap.size 54 5 (.slice a L.length cap) L.length (cellsL L) → Beside B u u' → u'.ownsRow w.heap.size 54 5 (.slice a L.length cap) L.length (cellsL L) := fun u u' h hb => owns_beside h hb hB
          have hYm : ∀ (u u' : World) (v : Value), (∃ L2, u.ownsRow w.heap.size 54 5 v L2.length (cellsL L2) ∧ L2.length ≤ 5) → Beside B u u' → (∃ L2, u'.ownsRow w.heap.size 54 5 v L2.length (cellsL L2) ∧ L2.length ≤ 5) := fun u u' v h hb => by obtain ⟨L2, h1, h2⟩ := h; exact ⟨L2, owns_beside h1 hb hB, h2⟩
          have hi12 : i < 12 := by
            obtain ⟨_, o, ho, _⟩ := mem_ready.1 hi
            exact (Array.getElem?_eq_some_iff.1 ho).1
          rcases (show i = 0 ∨ i = 1 ∨ i = 2 ∨ i = 3 ∨ i = 4 ∨ i = 5 ∨ i = 6 ∨ i = 7 ∨ i = 8 ∨ i = 9 ∨ i = 10 ∨ i = 11 from by omega) with rfl | rfl | rfl | rfl | rfl | rfl | rfl | rfl | rfl | rfl | rfl | rfl
          · have hA : l.getD 10 false = false := by
              cases hx : l.getD 10 false
              · rfl
              · have hx0 := hcl.dep (i := 10) rfl hx 0 (by kernel_rfl)
                exact (not_done hl0 hx0).elim
            refine wpOp_step rfl (fun K hK => ?_)
            go_simp
            refine hK _ _ ?_
            exact RI2.step (q' := q) 0 (.slice a L.length cap) hBN hi rfl hA (by decide) hq hR (by omega) hbz hN hX hXm hsz hcl hf hYm (Beside.refl _ u) rfl rfl
          · have hA : l.getD 10 false = false := by
              cases hx : l.getD 10 false
              · rfl
              · have hx0 := hcl.dep (i := 10) rfl hx 9 (by kernel_rfl)
                have hx1 := hcl.dep (i := 9) rfl hx0 8 (by kernel_rfl)
                have hx2 := hcl.dep (i := 8) rfl hx1 5 (by kernel_rfl)
                have hx3 := hcl.dep (i := 5) rfl hx2 4 (by kernel_rfl)
                have hx4 := hcl.dep (i := 4) rfl hx3 1 (by kernel_rfl)
                exact (not_done hl0 hx4).elim
            refine wpOp_step rfl (fun K hK => ?_)
            go_simp
            refine hK _ _ ?_
            exact RI2.step (q' := q) 1 (.slice (some ⟨u.heap.size, 0, none⟩) 4 4) hBN hi rfl hA (by decide) hq (hR.alloc _) (by omega) hbz hN hX hXm hsz hcl hf hYm (bes_alloc _ u _) (sl_new4 u _ _ _ _ _ _ hN) rfl
          · have hA : l.getD 10 false = false := by
              cases hx : l.getD 10 false
              · rfl
              · have hx0 := hcl.dep (i := 10) rfl hx 9 (by kernel_rfl)
                have hx1 := hcl.dep (i := 9) rfl hx0 8 (by kernel_rfl)
                have hx2 := hcl.dep (i := 8) rfl hx1 5 (by kernel_rfl)
                have hx3 := hcl.dep (i := 5) rfl hx2 4 (by kernel_rfl)
                have hx4 := hcl.dep (i := 4) rfl hx3 3 (by kernel_rfl)
                have hx5 := hcl.dep (i := 3) rfl hx4 2 (by kernel_rfl)
                exact (not_done hl0 hx5).elim
            refine wpOp_step rfl (fun K hK => ?_)
            go_simp
            refine hK _ _ ?_
            exact RI2.step (q' := q) 2 (.pointer (some ⟨B, 0, none⟩)) hBN hi rfl hA (by decide) hq hR (by omega) hbz hN hX hXm hsz hcl hf hYm (Beside.refl _ u) rfl rfl
          · have hA : l.getD 10 false = false := by
              cases hx : l.getD 10 false
              · rfl
              · have hx0 := hcl.dep (i := 10) rfl hx 9 (by kernel_rfl)
                have hx1 := hcl.dep (i := 9) rfl hx0 8 (by kernel_rfl)
                have hx2 := hcl.dep (i := 8) rfl hx1 5 (by kernel_rfl)
                have hx3 := hcl.dep (i := 5) rfl hx2 4 (by kernel_rfl)
                have hx4 := hcl.dep (i := 4) rfl hx3 3 (by kernel_rfl)
                exact (not_done hl0 hx4).elim
            have e1 : vs 2 = .pointer (some ⟨B, 0, none⟩) := hf 2 (ready_dep hi rfl 2 (by kernel_rfl)) (fun _ => hA)
            refine wpOp_step rfl (fun K hK => ?_)
            go_simp
            refine (pick_any u _ q 4 hR (by omega) (by omega) (by omega)).mono ?_
            rintro e u' ⟨x, rfl, x0, x1, hk⟩
            refine hK _ _ ?_
            exact RI2.step (q' := q + 1) 3 (.int .i64 x) hBN hi rfl hA (by decide) hq (hk.rdr hR) (by omega) hbz hN hX hXm hsz hcl hf hYm hk.beside ⟨x.toNat, by omega, by rw [Int.toNat_of_nonneg x0]⟩ (by first | (rw [← e1]; done) | (rw [← e1]; rfl))
          · have hA : l.getD 10 false = false := by
              cases hx : l.getD 10 false
              · rfl
              · have hx0 := hcl.dep (i := 10) rfl hx 9 (by kernel_rfl)
                have hx1 := hcl.dep (i := 9) rfl hx0 8 (by kernel_rfl)
                have hx2 := hcl.dep (i := 8) rfl hx1 5 (by kernel_rfl)
                have hx3 := hcl.dep (i := 5) rfl hx2 4 (by kernel_rfl)
                exact (not_done hl0 hx3).elim
            obtain ⟨b, e1, hb, hcb⟩ : Sl u w2.heap.size 4 (vs 1) := hf 1 (ready_dep hi rfl 1 (by kernel_rfl)) (fun _ => hA)
            obtain ⟨j, hj, e2⟩ : Pk 4 (vs 3) := hf 3 (ready_dep hi rfl 3 (by kernel_rfl)) (fun _ => hA)
            obtain ⟨x, hx⟩ := hcb j hj
            have hji : (j : Int) < 4 := by omega
            clear hcb
            refine wpOp_step rfl (fun K hK => ?_)
            go_simp
            refine hK _ _ ?_
            exact RI2.step (q' := q) 4 (.pointer (some ⟨b, j, none⟩)) hBN hi rfl hA (by decide) hq hR (by omega) hbz hN hX hXm hsz hcl hf hYm (Beside.refl _ u) ⟨b, j, x, rfl, hb, hx⟩ (by first | (rw [← e1, ← e2]; done) | (rw [← e1, ← e2]; rfl))
          · have hA : l.getD 10 false = false := by
              cases hx : l.getD 10 false
              · rfl
              · have hx0 := hcl.dep (i := 10) rfl hx 9 (by kernel_rfl)
                have hx1 := hcl.dep (i := 9) rfl hx0 8 (by kernel_rfl)
                have hx2 := hcl.dep (i := 8) rfl hx1 5 (by kernel_rfl)
                exact (not_done hl0 hx2).elim
            obtain ⟨b, j, x, e1, hb, hx⟩ : Ix u w2.heap.size (vs 4) := hf 4 (ready_dep hi rfl 4 (by kernel_rfl)) (fun _ => hA)
            refine wpOp_step rfl (fun K hK => ?_)
            go_simp
            refine hK _ _ ?_
            exact RI2.step (q' := q) 5 (.int .i64 x) hBN hi rfl hA (by decide) hq hR (by omega) hbz hN hX hXm hsz hcl hf hYm (Beside.refl _ u) ⟨x, rfl⟩ (by first | (rw [← e1]; done) | (rw [← e1]; rfl))
          · have hA : l.getD 10 false = false := by
              cases hx : l.getD 10 false
              · rfl
              · have hx0 := hcl.dep (i := 10) rfl hx 9 (by kernel_rfl)
                have hx1 := hcl.dep (i := 9) rfl hx0 8 (by kernel_rfl)
                have hx2 := hcl.dep (i := 8) rfl hx1 7 (by kernel_rfl)
                have hx3 := hcl.dep (i := 7) rfl hx2 6 (by kernel_rfl)
                exact (not_done hl0 hx3).elim
            refine wpOp_step rfl (fun K hK => ?_)
            go_simp
            refine hK _ _ ?_
            exact RI2.step (q' := q) 6 (.pointer (some ⟨B, 0, none⟩)) hBN hi rfl hA (by decide) hq hR (by omega) hbz hN hX hXm hsz hcl hf hYm (Beside.refl _ u) rfl rfl
          · have hA : l.getD 10 false = false := by
              cases hx : l.getD 10 false
              · rfl
              · have hx0 := hcl.dep (i := 10) rfl hx 9 (by kernel_rfl)
                have hx1 := hcl.dep (i := 9) rfl hx0 8 (by kernel_rfl)
                have hx2 := hcl.dep (i := 8) rfl hx1 7 (by kernel_rfl)
                exact (not_done hl0 hx2).elim
            have e1 : vs 6 = .pointer (some ⟨B, 0, none⟩) := hf 6 (ready_dep hi rfl 6 (by kernel_rfl)) (fun _ => hA)
            refine wpOp_step rfl (fun K hK => ?_)
            go_simp
            refine (mon_any u _ q 2 hR (by omega) (by omega) (by omega)).mono ?_
            rintro e u' ⟨x0, x1, x2, x3, q', rfl, hq', hr', hk⟩
            refine hK _ _ ?_
            exact RI2.step (q' := q') 7 (.agg #[.int .i64 x0, .int .i64 x1, .int .i64 x2, .int .i64 x3]) hBN hi rfl hA (by decide) hq hr' (by omega) hbz hN hX hXm hsz hcl hf hYm hk ⟨x0, x1, x2, x3, rfl⟩ (by first | (rw [← e1]; done) | (rw [← e1]; rfl))
          · have hA : l.getD 10 false = false := by
              cases hx : l.getD 10 false
              · rfl
              · have hx0 := hcl.dep (i := 10) rfl hx 9 (by kernel_rfl)
                have hx1 := hcl.dep (i := 9) rfl hx0 8 (by kernel_rfl)
                exact (not_done hl0 hx1).elim
            obtain ⟨c, e1⟩ : Ld (vs 5) := hf 5 (ready_dep hi rfl 5 (by kernel_rfl)) (fun _ => hA)
            obtain ⟨x0, x1, x2, x3, e2⟩ : Ag (vs 7) := hf 7 (ready_dep hi rfl 7 (by kernel_rfl)) (fun _ => hA)
            refine wpOp_step rfl (fun K hK => ?_)
            go_simp
            refine hK _ _ ?_
            exact RI2.step (q' := q) 8 (.agg #[.int .i64 c, .int .i64 x0, .int .i64 x1, .int .i64 x2, .int .i64 x3]) hBN hi rfl hA (by decide) hq hR (by omega) hbz hN hX hXm hsz hcl hf hYm (Beside.refl _ u) ⟨c, x0, x1, x2, x3, rfl⟩ (by first | (rw [← e1, ← e2]; done) | (rw [← e1, ← e2]; rfl))
          · have hA : l.getD 10 false = false := by
              cases hx : l.getD 10 false
              · rfl
              · have hx0 := hcl.dep (i := 10) rfl hx 9 (by kernel_rfl)
                exact (not_done hl0 hx0).elim
            obtain ⟨c, x0, x1, x2, x3, e1⟩ : A5 (vs 8) := hf 8 (ready_dep hi rfl 8 (by kernel_rfl)) (fun _ => hA)
            refine wpOp_step rfl (fun K hK => ?_)
            go_simp
            refine hK _ _ ?_
            exact RI2.step (q' := q) 9 (.slice (some ⟨u.heap.size, 0, none⟩) 1 1) hBN hi rfl hA (by decide) hq (hR.alloc _) (by omega) hbz hN hX hXm hsz hcl hf hYm (bes_alloc _ u _) (s1_new u _ _ _ _ _ _ hN) (by first | (rw [← e1]; done) | (rw [← e1]; rfl))
          · have hA : l.getD 10 false = false := by rw [Array.getD_eq_getD_getElem?, getD_false hl0]; rfl
            have e0 : vs 0 = .slice a L.length cap := hf 0 (ready_dep hi rfl 0 (by kernel_rfl)) (fun _ => hA)
            obtain ⟨b, c, x0, x1, x2, x3, e1, hbN, hbl, hbc⟩ : S1 u w2.heap.size (vs 9) := hf 9 (ready_dep hi rfl 9 (by kernel_rfl)) (fun _ => hA)
            have hgt : ∀ k, 10 < k → l.getD k false = false := fun k hk => by
              by_cases hk1 : k = 11
              · subst hk1
                cases hx : l.getD 11 false
                · rfl
                · exact (not_done hl0 (hcl.dep (i := 11) rfl hx 10 (by kernel_rfl))).elim
              · rw [Array.getD_eq_getD_getElem?, Array.getElem?_eq_none (by omega)]; rfl
            refine wpOp_step rfl (fun K hK => ?_)
            refine step_append_lies _ rfl (.tmp 22) (.tmp 31) 35 rfl w.heap.size 54 i0 _ 5 40 Tryz.underlying35 hi0 hz0 hz1 hz2 rfl (by omega) _ L.length (cellsL L) e0 (hX hA) ⟨b, 0, none⟩ 1 1 (cellsL [⟨c, ⟨x0, x1, x2, x3⟩⟩]) e1 (by rw [cellsL_length]; rfl) (by rw [cellsL_one]; exact World.news_of_block hbc) (one_cells _) (by omega) (by unfold maxLen; omega) (by omega) (Nat.le_trans hbz.size (Nat.le_refl _)) _ rfl ?_
            intro g0 cap0 w9 hown1 hgrow hat hlt1
            refine hK _ _ ?_
            have hrow : ∀ k, (Value.slice a L.length cap).ownBlock = some k → w.heap.size ≤ k := fun k hk => ((hX hA).lt k hk).1
            exact RI2.last (.slice (some ⟨g0, 0, none⟩) (L.length + 1) cap0) hi rfl (by decide) hgt hq (hR.grown hgrow (fun k hk => by have := hrow k hk; omega)) (hbz.grown hgrow hrow) (Nat.le_trans hN hgrow.size) hsz hcl rfl ⟨L ++ [⟨c, ⟨x0, x1, x2, x3⟩⟩], by rw [cellsL_append, List.length_append]; exact hown1, by simp; omega⟩ rfl
          · have hAt : l.getD 10 false = true := ready_dep hi rfl 10 (by kernel_rfl)
            have hy := hf 10 hAt (fun h => absurd h (by decide))
            refine wpOp_step rfl (fun K hK => ?_)
            go_simp
            refine hK _ _ ?_
            exact RI2.asg 11 (vs 10) hi rfl hAt (by decide) hq hR hbz hN hsz hcl hf rfl hy rfl
        · intro l b u hI hr
          obtain ⟨q, vs, rfl, hR, hq, hbz, hN, hX, hsz, hcl, hf⟩ := hI
          have hall := all_done (by kernel_rfl) hr hsz
          obtain ⟨L2, h1, h2⟩ := hf 11 (hall 11 (by decide)) (fun h => absurd h (by decide))
          exact ⟨rfl, q, vs, L2, rfl, hR, by omega, hbz, h1, h2⟩
      · rintro e b u ⟨rfl, q, vs, L2, rfl, hR, hq, hb, ho, hl⟩
        obtain ⟨a2, cap2, he, hout⟩ := out_of_owns ho (by omega)
        rw [he]
        have HO9 := Hid.mk' hout
        have HR9 := Hid.mk' hR
        clear ho hout he hR HR2 HB2 HO2
        go_wp2
        go_ret
        exact ⟨_, _, _, _, _, rfl, HO9.out.1, hl, HO9.out.2.2, by omega, HR9.out, hb⟩
    · have HZ := Hid.mk' hz
      have hzb : ((L.length : Int) == 0) = false := by simpa using hz
      clear hz
      go_wp2_with fail
      refine (pick_any w2 B _ 3 HR2.out (by omega) (by omega) (by omega)).mono ?_
      rintro e w3 ⟨x, rfl, x0, x1, hk⟩
      have HR3 := Hid.mk' (hk.rdr HR2.out)
      have HB3 := Hid.mk' (HB2.out.trans hk.beside)
      have HO3 := Hid.mk' (owns_beside HO2.out hk.beside hB)
      clear hk HR2 HB2 HO2
      by_cases hx : x = 0
      · subst hx
        go_wp2_with fail
        refine Code.wp_mono (Q := fun e b u => e = Exit.normal ∧ ∃ (q : Nat) (vs : Nat → Value) (L2 : List T), b = { tmps := #[Value.pointer (some ⟨B, 0, none⟩), Value.int IntKind.i64 n, undef, undef, vs 11, Value.slice a L.length cap, Value.pointer (some ⟨B, 0, none⟩), Value.slice a L.length cap, Value.pointer (some ⟨B, 0, none⟩), Value.int IntKind.i64 n, Value.int IntKind.i64 0, Value.bool false, undef, Value.bool true, Value.slice a L.length cap, Value.int IntKind.i64 (L.length : Int), Value.bool false, Value.bool false, Value.pointer (some ⟨B, 0, none⟩), Value.int IntKind.i64 0, Value.bool true, Value.bool true, vs 0, vs 1, vs 2, vs 3, vs 4, vs 5, vs 6, vs 7, vs 8, vs 9, vs 10, undef, undef, undef, undef, undef, undef, undef, undef, undef, undef, undef, undef, undef, undef, undef, undef, undef, undef, undef], defers := [] } ∧ Rdr u B q ∧ q ≤ q1 + 1 + 1 + 360 ∧ Beside B w u ∧ u.ownsRow w.heap.size 54 5 (vs 11) L2.length (cellsL L2) ∧ L2.length ≤ 5) ?_ ?_
        rotate_left
        · have hBN : B < w3.heap.size := HR3.out.lt
          refine wp_region_ri2 (fun vs : Nat → Value => ({ tmps := #[Value.pointer (some ⟨B, 0, none⟩), Value.int IntKind.i64 n, undef, undef, vs 11, Value.slice a L.length cap, Value.pointer (some ⟨B, 0, none⟩), Value.slice a L.length cap, Value.pointer (some ⟨B, 0, none⟩), Value.int IntKind.i64 n, Value.int IntKind.i64 0, Value.bool false, undef, Value.bool true, Value.slice a L.length cap, Value.int IntKind.i64 (L.length : Int), Value.bool false, Value.bool false, Value.pointer (some ⟨B, 0, none⟩), Value.int IntKind.i64 0, Value.bool true, Value.bool true, vs 0, vs 1, vs 2, vs 3, vs 4, vs 5, vs 6, vs 7, vs 8, vs 9, vs 10, undef, undef, undef, undef, undef, undef, undef, undef, undef, undef, undef, undef, undef, undef, undef, undef, undef, undef, undef], defers := [] } : Act)) (fun k => match k with | 0 => SK2.is (.slice a L.length cap) | 1 => SK2.old (SK.sl 4) | 2 => SK2.old SK.rd | 3 => SK2.old (SK.pk 4) | 4 => SK2.old SK.ix | 5 => SK2.old SK.ld | 6 => SK2.old SK.rd | 7 => SK2.old SK.ag | 8 => SK2.a5 | 9 => SK2.s1 | 10 => SK2.own | 11 => SK2.own | _ => SK2.own) 12 10 B (q1 + 1 + 1) w3.heap.size (fun u => u.ownsRow w.heap.size 54 5 (.slice a L.length cap) L.length (cellsL L)) (fun u v => ∃ L2, u.ownsRow w.heap.size 54 5 v L2.length (cellsL L2) ∧ L2.length ≤ 5) w (by kernel_rfl) ?_ ?_ ?_
          · exact RI2.start (fun k => if k = 11 then .slice none 0 0 else undef) rfl HR3.out HB3.out (Nat.le_refl _) (owns_below HO3.out (Below.refl _ _).drew)
          · intro l b u hI i hi
            obtain ⟨q, vs, rfl, hR, hq, hbz, hN, hX, hsz, hcl, hf⟩ := hI
            have hl0 := (mem_ready.1 hi).1
            have hund1 : 1 ≤ undone l := by have := undone_set (getD_false hl0); omega
            have hXm : ∀ u u' : World, u.ownsRow w.heap.size 54 5 (.slice a L.length cap) L.length (cellsL L) → Beside B u u' → u'.ownsRow w.heap.size 54 5 (.slice a L.length cap) L.length (cellsL L) := fun u u' h hb => owns_beside h hb hB
            have hYm : ∀ (u u' : World) (v : Value), (∃ L2, u.ownsRow w.heap.size 54 5 v L2.length (cellsL L2) ∧ L2.length ≤ 5) → Beside B u u' → (∃ L2, u'.ownsRow w.heap.size 54 5 v L2.length (cellsL L2) ∧ L2.length ≤ 5) := fun u u' v h hb => by obtain ⟨L2, h1, h2⟩ := h; exact ⟨L2, owns_beside h1 hb hB, h2⟩
            have hi12 : i < 12 := by
              obtain ⟨_, o, ho, _⟩ := mem_ready.1 hi
              exact (Array.getElem?_eq_some_iff.1 ho).1
            rcases (show i = 0 ∨ i = 1 ∨ i = 2 ∨ i = 3 ∨ i = 4 ∨ i = 5 ∨ i = 6 ∨ i = 7 ∨ i = 8 ∨ i = 9 ∨ i = 10 ∨ i = 11 from by omega) with rfl | rfl | rfl | rfl | rfl | rfl | rfl | rfl | rfl | rfl | rfl | rfl
            · have hA : l.getD 10 false = false := by
                cases hx : l.getD 10 false
                · rfl
                · have hx0 := hcl.dep (i := 10) rfl hx 0 (by kernel_rfl)
                  exact (not_done hl0 hx0).elim
              refine wpOp_step rfl (fun K hK => ?_)
              go_simp
              refine hK _ _ ?_
              exact RI2.step (q' := q) 0 (.slice a L.length cap) hBN hi rfl hA (by decide) hq hR (by omega) hbz hN hX hXm hsz hcl hf hYm (Beside.refl _ u) rfl rfl
            · have hA : l.getD 10 false = false := by
                cases hx : l.getD 10 false
                · rfl
                · have hx0 := hcl.dep (i := 10) rfl hx 9 (by kernel_rfl)
                  have hx1 := hcl.dep (i := 9) rfl hx0 8 (by kernel_rfl)
                  have hx2 := hcl.dep (i := 8) rfl hx1 5 (by kernel_rfl)
                  have hx3 := hcl.dep (i := 5) rfl hx2 4 (by kernel_rfl)
                  have hx4 := hcl.dep (i := 4) rfl hx3 1 (by kernel_rfl)
                  exact (not_done hl0 hx4).elim
              refine wpOp_step rfl (fun K hK => ?_)
              go_simp
              refine hK _ _ ?_
              exact RI2.step (q' := q) 1 (.slice (some ⟨u.heap.size, 0, none⟩) 4 4) hBN hi rfl hA (by decide) hq (hR.alloc _) (by omega) hbz hN hX hXm hsz hcl hf hYm (bes_alloc _ u _) (sl_new4 u _ _ _ _ _ _ hN) rfl
            · have hA : l.getD 10 false = false := by
                cases hx : l.getD 10 false
                · rfl
                · have hx0 := hcl.dep (i := 10) rfl hx 9 (by kernel_rfl)
                  have hx1 := hcl.dep (i := 9) rfl hx0 8 (by kernel_rfl)
                  have hx2 := hcl.dep (i := 8) rfl hx1 5 (by kernel_rfl)
                  have hx3 := hcl.dep (i := 5) rfl hx2 4 (by kernel_rfl)
                  have hx4 := hcl.dep (i := 4) rfl hx3 3 (by kernel_rfl)
                  have hx5 := hcl.dep (i := 3) rfl hx4 2 (by kernel_rfl)
                  exact (not_done hl0 hx5).elim
              refine wpOp_step rfl (fun K hK => ?_)
              go_simp
              refine hK _ _ ?_
              exact RI2.step (q' := q) 2 (.pointer (some ⟨B, 0, none⟩)) hBN hi rfl hA (by decide) hq hR (by omega) hbz hN hX hXm hsz hcl hf hYm (Beside.refl _ u) rfl rfl
            · have hA : l.getD 10 false = false := by
                cases hx : l.getD 10 false
                · rfl
                · have hx0 := hcl.dep (i := 10) rfl hx 9 (by kernel_rfl)
                  have hx1 := hcl.dep (i := 9) rfl hx0 8 (by kernel_rfl)
                  have hx2 := hcl.dep (i := 8) rfl hx1 5 (by kernel_rfl)
                  have hx3 := hcl.dep (i := 5) rfl hx2 4 (by kernel_rfl)
                  have hx4 := hcl.dep (i := 4) rfl hx3 3 (by kernel_rfl)
                  exact (not_done hl0 hx4).elim
              have e1 : vs 2 = .pointer (some ⟨B, 0, none⟩) := hf 2 (ready_dep hi rfl 2 (by kernel_rfl)) (fun _ => hA)
              refine wpOp_step rfl (fun K hK => ?_)
              go_simp
              refine (pick_any u _ q 4 hR (by omega) (by omega) (by omega)).mono ?_
              rintro e u' ⟨x, rfl, x0, x1, hk⟩
              refine hK _ _ ?_
              exact RI2.step (q' := q + 1) 3 (.int .i64 x) hBN hi rfl hA (by decide) hq (hk.rdr hR) (by omega) hbz hN hX hXm hsz hcl hf hYm hk.beside ⟨x.toNat, by omega, by rw [Int.toNat_of_nonneg x0]⟩ (by first | (rw [← e1]; done) | (rw [← e1]; rfl))
            · have hA : l.getD 10 false = false := by
                cases hx : l.getD 10 false
                · rfl
                · have hx0 := hcl.dep (i := 10) rfl hx 9 (by kernel_rfl)
                  have hx1 := hcl.dep (i := 9) rfl hx0 8 (by kernel_rfl)
                  have hx2 := hcl.dep (i := 8) rfl hx1 5 (by kernel_rfl)
                  have hx3 := hcl.dep (i := 5) rfl hx2 4 (by kernel_rfl)
                  exact (not_done hl0 hx3).elim
              obtain ⟨b, e1, hb, hcb⟩ : Sl u w3.heap.size 4 (vs 1) := hf 1 (ready_dep hi rfl 1 (by kernel_rfl)) (fun _ => hA)
              obtain ⟨j, hj, e2⟩ : Pk 4 (vs 3) := hf 3 (ready_dep hi rfl 3 (by kernel_rfl)) (fun _ => hA)
              obtain ⟨x, hx⟩ := hcb j hj
              have hji : (j : Int) < 4 := by omega
              clear hcb
              refine wpOp_step rfl (fun K hK => ?_)
              go_simp
              refine hK _ _ ?_
              exact RI2.step (q' := q) 4 (.pointer (some ⟨b, j, none⟩)) hBN hi rfl hA (by decide) hq hR (by omega) hbz hN hX hXm hsz hcl hf hYm (Beside.refl _ u) ⟨b, j, x, rfl, hb, hx⟩ (by first | (rw [← e1, ← e2]; done) | (rw [← e1, ← e2]; rfl))
            · have hA : l.getD 10 false = false := by
                cases hx : l.getD 10 false
                · rfl
                · have hx0 := hcl.dep (i := 10) rfl hx 9 (by kernel_rfl)
                  have hx1 := hcl.dep (i := 9) rfl hx0 8 (by kernel_rfl)
                  have hx2 := hcl.dep (i := 8) rfl hx1 5 (by kernel_rfl)
                  exact (not_done hl0 hx2).elim
              obtain ⟨b, j, x, e1, hb, hx⟩ : Ix u w3.heap.size (vs 4) := hf 4 (ready_dep hi rfl 4 (by kernel_rfl)) (fun _ => hA)
              refine wpOp_step rfl (fun K hK => ?_)
              go_simp
              refine hK _ _ ?_
              exact RI2.step (q' := q) 5 (.int .i64 x) hBN hi rfl hA (by decide) hq hR (by omega) hbz hN hX hXm hsz hcl hf hYm (Beside.refl _ u) ⟨x, rfl⟩ (by first | (rw [← e1]; done) | (rw [← e1]; rfl))
            · have hA : l.getD 10 false = false := by
                cases hx : l.getD 10 false
                · rfl
                · have hx0 := hcl.dep (i := 10) rfl hx 9 (by kernel_rfl)
                  have hx1 := hcl.dep (i := 9) rfl hx0 8 (by kernel_rfl)
                  have hx2 := hcl.dep (i := 8) rfl hx1 7 (by kernel_rfl)
                  have hx3 := hcl.dep (i := 7) rfl hx2 6 (by kernel_rfl)
                  exact (not_done hl0 hx3).elim
              refine wpOp_step rfl (fun K hK => ?_)
              go_simp
              refine hK _ _ ?_
              exact RI2.step (q' := q) 6 (.pointer (some ⟨B, 0, none⟩)) hBN hi rfl hA (by decide) hq hR (by omega) hbz hN hX hXm hsz hcl hf hYm (Beside.refl _ u) rfl rfl
            · have hA : l.getD 10 false = false := by
                cases hx : l.getD 10 false
                · rfl
                · have hx0 := hcl.dep (i := 10) rfl hx 9 (by kernel_rfl)
                  have hx1 := hcl.dep (i := 9) rfl hx0 8 (by kernel_rfl)
                  have hx2 := hcl.dep (i := 8) rfl hx1 7 (by kernel_rfl)
                  exact (not_done hl0 hx2).elim
              have e1 : vs 6 = .pointer (some ⟨B, 0, none⟩) := hf 6 (ready_dep hi rfl 6 (by kernel_rfl)) (fun _ => hA)
              refine wpOp_step rfl (fun K hK => ?_)
              go_simp
              refine (mon_any u _ q 2 hR (by omega) (by omega) (by omega)).mono ?_
              rintro e u' ⟨x0, x1, x2, x3, q', rfl, hq', hr', hk⟩
              refine hK _ _ ?_
              exact RI2.step (q' := q') 7 (.agg #[.int .i64 x0, .int .i64 x1, .int .i64 x2, .int .i64 x3]) hBN hi rfl hA (by decide) hq hr' (by omega) hbz hN hX hXm hsz hcl hf hYm hk ⟨x0, x1, x2, x3, rfl⟩ (by first | (rw [← e1]; done) | (rw [← e1]; rfl))
            · have hA : l.getD 10 false = false := by
                cases hx : l.getD 10 false
                · rfl
                · have hx0 := hcl.dep (i := 10) rfl hx 9 (by kernel_rfl)
                  have hx1 := hcl.dep (i := 9) rfl hx0 8 (by kernel_rfl)
                  exact (not_done hl0 hx1).elim
              obtain ⟨c, e1⟩ : Ld (vs 5) := hf 5 (ready_dep hi rfl 5 (by kernel_rfl)) (fun _ => hA)
              obtain ⟨x0, x1, x2, x3, e2⟩ : Ag (vs 7) := hf 7 (ready_dep hi rfl 7 (by kernel_rfl)) (fun _ => hA)
              refine wpOp_step rfl (fun K hK => ?_)
              go_simp
              refine hK _ _ ?_
              exact RI2.step (q' := q) 8 (.agg #[.int .i64 c, .int .i64 x0, .int .i64 x1, .int .i64 x2, .int .i64 x3]) hBN hi rfl hA (by decide) hq hR (by omega) hbz hN hX hXm hsz hcl hf hYm (Beside.refl _ u) ⟨c, x0, x1, x2, x3, rfl⟩ (by first | (rw [← e1, ← e2]; done) | (rw [← e1, ← e2]; rfl))
            · have hA : l.getD 10 false = false := by
                cases hx : l.getD 10 false
                · rfl
                · have hx0 := hcl.dep (i := 10) rfl hx 9 (by kernel_rfl)
                  exact (not_done hl0 hx0).elim
              obtain ⟨c, x0, x1, x2, x3, e1⟩ : A5 (vs 8) := hf 8 (ready_dep hi rfl 8 (by kernel_rfl)) (fun _ => hA)
              refine wpOp_step rfl (fun K hK => ?_)
              go_simp
              refine hK _ _ ?_
              exact RI2.step (q' := q) 9 (.slice (some ⟨u.heap.size, 0, none⟩) 1 1) hBN hi rfl hA (by decide) hq (hR.alloc _) (by omega) hbz hN hX hXm hsz hcl hf hYm (bes_alloc _ u _) (s1_new u _ _ _ _ _ _ hN) (by first | (rw [← e1]; done) | (rw [← e1]; rfl))
            · have hA : l.getD 10 false = false := by rw [Array.getD_eq_getD_getElem?, getD_false hl0]; rfl
              have e0 : vs 0 = .slice a L.length cap := hf 0 (ready_dep hi rfl 0 (by kernel_rfl)) (fun _ => hA)
              obtain ⟨b, c, x0, x1, x2, x3, e1, hbN, hbl, hbc⟩ : S1 u w3.heap.size (vs 9) := hf 9 (ready_dep hi rfl 9 (by kernel_rfl)) (fun _ => hA)
              have hgt : ∀ k, 10 < k → l.getD k false = false := fun k hk => by
                by_cases hk1 : k = 11
                · subst hk1
                  cases hx : l.getD 11 false
                  · rfl
                  · exact (not_done hl0 (hcl.dep (i := 11) rfl hx 10 (by kernel_rfl))).elim
                · rw [Array.getD_eq_getD_getElem?, Array.getElem?_eq_none (by omega)]; rfl
              refine wpOp_step rfl (fun K hK => ?_)
              refine step_append_lies _ rfl (.tmp 22) (.tmp 31) 35 rfl w.heap.size 54 i0 _ 5 40 Tryz.underlying35 hi0 hz0 hz1 hz2 rfl (by omega) _ L.length (cellsL L) e0 (hX hA) ⟨b, 0, none⟩ 1 1 (cellsL [⟨c, ⟨x0, x1, x2, x3⟩⟩]) e1 (by rw [cellsL_length]; rfl) (by rw [cellsL_one]; exact World.news_of_block hbc) (one_cells _) (by omega) (by unfold maxLen; omega) (by omega) (Nat.le_trans hbz.size (Nat.le_refl _)) _ rfl ?_
              intro g0 cap0 w9 hown1 hgrow hat hlt1
              refine hK _ _ ?_
              have hrow : ∀ k, (Value.slice a L.length cap).ownBlock = some k → w.heap.size ≤ k := fun k hk => ((hX hA).lt k hk).1
              exact RI2.last (.slice (some ⟨g0, 0, none⟩) (L.length + 1) cap0) hi rfl (by decide) hgt hq (hR.grown hgrow (fun k hk => by have := hrow k hk; omega)) (hbz.grown hgrow hrow) (Nat.le_trans hN hgrow.size) hsz hcl rfl ⟨L ++ [⟨c, ⟨x0, x1, x2, x3⟩⟩], by rw [cellsL_append, List.length_append]; exact hown1, by simp; omega⟩ rfl
            · have hAt : l.getD 10 false = true := ready_dep hi rfl 10 (by kernel_rfl)
              have hy := hf 10 hAt (fun h => absurd h (by decide))
              refine wpOp_step rfl (fun K hK => ?_)
              go_simp
              refine hK _ _ ?_
              exact RI2.asg 11 (vs 10) hi rfl hAt (by decide) hq hR hbz hN hsz hcl hf rfl hy rfl
          · intro l b u hI hr
            obtain ⟨q, vs, rfl, hR, hq, hbz, hN, hX, hsz, hcl, hf⟩ := hI
            have hall := all_done (by kernel_rfl) hr hsz
            obtain ⟨L2, h1, h2⟩ := hf 11 (hall 11 (by decide)) (fun h => absurd h (by decide))
            exact ⟨rfl, q, vs, L2, rfl, hR, by omega, hbz, h1, h2⟩
        · rintro e b u ⟨rfl, q, vs, L2, rfl, hR, hq, hb, ho, hl⟩
          obtain ⟨a2, cap2, he, hout⟩ := out_of_owns ho (by omega)
          rw [he]
          have HO9 := Hid.mk' hout
          have HR9 := Hid.mk' hR
          clear ho hout he hR HR3 HB3 HO3
          go_wp2
          go_ret
          exact ⟨_, _, _, _, _, rfl, HO9.out.1, hl, HO9.out.2.2, by omega, HR9.out, hb⟩
      · have hxb : (x == 0) = false := by simp [hx]
        go_wp2_with fail
        refine (pick_any w3 B _ 2 HR3.out (by omega) (by omega) (by omega)).mono ?_
        rintro e w4 ⟨y, rfl, y0, y1, hk⟩
        have HR4 := Hid.mk' (hk.rdr HR3.out)
        have HB4 := Hid.mk' (HB3.out.trans hk.beside)
        have HO4 := Hid.mk' (owns_beside HO3.out hk.beside hB)
        clear hk HR3 HB3 HO3
        obtain ⟨a', cap', he, ho⟩ := out_of_owns HO4.out (by omega)
        cases he
        have hL0 : 0 < L.length := by have := HZ.out; omega
        have hcap : L.length ≤ cap := ho.1.1
        have hblk : ∃ b off, a = some ⟨b, off, none⟩ := by
          rcases ho.1.2.2 with h0 | ⟨b, off, he, _, _⟩
          · omega
          · exact ⟨b, off, he⟩
        obtain ⟨b, off, rfl⟩ := hblk
        have HRD := Hid.mk' ho.1
        have HU := Hid.mk' (ho.2.2)
        clear ho
        by_cases hy : y = 0
        · subst hy
          have HO5 := Hid.mk' (owns_none w4 w.heap.size HB4.out.size)
          have HN := Hid.mk' ((HRD.out.below (bel_one w4 (.cells #[] 54))).news)
          have HB5 := Hid.mk' (HB4.out.alloc (.cells #[] 54))
          have HR5 := Hid.mk' (HR4.out.alloc (.cells #[] 54))
          have hs5 : w.heap.size ≤ (w4.alloc (.cells #[] 54)).heap.size := HB5.out.size
          go_wp2_with (at_builtin; refine wpList_append_lies _ rfl (.tmp 37) (.tmp 38) 35 rfl w.heap.size 54 i0 _ 5 40 Tryz.underlying35 hi0 hz0 hz1 hz2 rfl (by omega) _ 0 (cellsL []) rfl (HO5.out) ⟨b, off, none⟩ L.length cap (cellsL L) rfl (by simp [cellsL_length]) (HN.out) (all_cells L) (by omega) (by unfold maxLen; omega) (by omega) (hs5) _ rfl ?_; intro g0 cap0 w9 hown1 hgrow hat hlt1)
          have HR6 := Hid.mk' (HR5.out.grown hgrow (fun k hk => by cases hk; exact Nat.lt_of_lt_of_le hB HB4.out.size))
          have HB6 := Hid.mk' (HB5.out.grown hgrow (fun k hk => by cases hk; exact HB4.out.size))
          obtain ⟨a6, cap6, he, ho⟩ := out_of_owns (w := w9) (lo := w.heap.size) (v := .slice (some ⟨g0, 0, none⟩) L.length cap0) (L := L) (by simpa [cellsL] using hown1) (by omega)
          simp only [Value.slice.injEq] at he
          obtain ⟨rfl, _, rfl⟩ := he
          have hg0 : w.heap.size ≤ g0 := by
            rcases ho.2.2 with h | ⟨g, off2, he, hg⟩
            · omega
            · cases he; exact hg
          rcases ho.2.1 with h0 | ⟨g, off2, N, F, he, hrw, hN, hF⟩
          · omega
          cases he
          simp only [Nat.zero_add] at hN hF
          have hcap6 : L.length ≤ cap0 := ho.1.1
          have HRW := Hid.mk' hrw
          have HF := Hid.mk' hF
          clear ho hrw hF hown1 hgrow hat hlt1 HO5 HN HB5 HR5
          refine (mon_any w9 B _ 1 HR6.out (by omega) (by omega) (by omega)).mono ?_
          rintro e w10 ⟨m1, m2, m3, m4, q6, rfl, hq6, r6, s6⟩
          have HR7 := Hid.mk' r6
          have HB7 := Hid.mk' (HB6.out.trans s6)
          have hrw := HRW.out.of_block (s6.block g0 HRW.out.lt (by omega))
          have HR8 := Hid.mk' hrw
          have k1 := hrw.cell (i := 1) (by omega)
          have k2 := hrw.cell (i := 2) (by omega)
          have k3 := hrw.cell (i := 3) (by omega)
          have k4 := hrw.cell (i := 4) (by omega)
          have f1 := hrw.frozen 1
          have f2 := hrw.frozen 2
          have f3 := hrw.frozen 3
          have f4 := hrw.frozen 4
          have hL0' : (0 : Int) < (L.length : Int) := by omega
          clear r6 s6 hrw HR6 HB6 HRW
          go_wp2
          go_ret
          exact ⟨_, _, _, _, q6, rfl, set_first (f := lf L) HR8.out hL0 hN HF.out hcap6 (by omega), by omega, .inr ⟨g0, 0, rfl, hg0⟩, by omega, (((HR7.out.set (by omega)).set (by omega)).set (by omega)).set (by omega), (((HB7.out.set hg0).set hg0).set hg0).set hg0⟩
        · have hyb : (y == 0) = false := by simp [hy]
          rcases HRD.out.2.2 with h0 | ⟨b', off', he, hblt, hcl⟩
          · omega
          cases he
          obtain ⟨c0, c1, c2, c3, c4⟩ := hcl 0 (by omega)
          simp only [Nat.zero_mul, Nat.add_zero] at c0 c1 c2 c3 c4
          have HB5 := Hid.mk' (HB4.out.alloc (.cells #[.int .i64 (lf L 0).c, .int .i64 (lf L 0).m.x, .int .i64 (lf L 0).m.y, .int .i64 (lf L 0).m.d, .int .i64 (lf L 0).m.e] 54))
          have hs5 : w.heap.size ≤ (w4.alloc (.cells #[.int .i64 (lf L 0).c, .int .i64 (lf L 0).m.x, .int .i64 (lf L 0).m.y, .int .i64 (lf L 0).m.d, .int .i64 (lf L 0).m.e] 54)).heap.size := HB5.out.size
          have HO5 := Hid.mk' (HO4.out.alloc (.cells #[.int .i64 (lf L 0).c, .int .i64 (lf L 0).m.x, .int .i64 (lf L 0).m.y, .int .i64 (lf L 0).m.d, .int .i64 (lf L 0).m.e] 54))
          have HR5 := Hid.mk' (HR4.out.alloc (.cells #[.int .i64 (lf L 0).c, .int .i64 (lf L 0).m.x, .int .i64 (lf L 0).m.y, .int .i64 (lf L 0).m.d, .int .i64 (lf L 0).m.e] 54))
          clear hcl
          go_wp2_with (at_builtin; refine wpList_append_lies _ rfl (.tmp 46) (.tmp 50) 35 rfl w.heap.size 54 i0 _ 5 40 Tryz.underlying35 hi0 hz0 hz1 hz2 rfl (by omega) _ L.length (cellsL L) rfl (HO5.out) ⟨w4.heap.size, 0, none⟩ 1 1 (cellsL [lf L 0]) rfl (by simp [cellsL_length]) (by rw [cellsL_one]; exact World.news_of_block (heap_alloc_new w4 _)) (one_cells _) (by omega) (by unfold maxLen; omega) (by omega) (hs5) _ rfl ?_; intro g0 cap0 w9 hown1 hgrow hat hlt1)
          have hrow : ∀ k, (Value.slice (some ⟨b, off, none⟩) L.length cap).ownBlock = some k → w.heap.size ≤ k := fun k hk => (HO4.out.lt k hk).1
          have HR6 := Hid.mk' (HR5.out.grown hgrow (fun k hk => by have := hrow k hk; omega))
          have HB6 := Hid.mk' (HB5.out.grown hgrow hrow)
          have hout := out_of_owns (L := L ++ [lf L 0]) (by rw [cellsL_append, List.length_append]; exact hown1) (by simp; omega)
          go_ret
          obtain ⟨a6, cap6, he, ho⟩ := hout
          simp only [Value.slice.injEq] at he
          obtain ⟨rfl, _, rfl⟩ := he
          exact ⟨_, _, _, lf (L ++ [lf L 0]), _, rfl, by have := ho.1; simpa using this, by omega, by
            rcases ho.2.2 with h | h
            · simp at h
            · exact .inr h, by omega, HR6.out, HB6.out⟩
end Go.Proofs.YtmlaedpamobmhaaGreat
namespace Go.Proofs.YtmlaedpamobmhaaGreat
open Go.RowKit Go.Deep Go.Joins
set_option linter.unusedVariables false
set_option maxRecDepth 100000 in
set_option maxHeartbeats 8000000 in
theorem list_any5 (w : World) (B p : Nat) (most n : Int) (h : Rdr w B p) (m1 : 1 ≤ most) (m2 : most ≤ 4) (hn : 1 ≤ n) (hn' : n ≤ 1000) (hp : p ≤ 4000) :
    Calls Tryz.prog 37 #[.pointer (some ⟨B, 0, none⟩), .int .i64 most, .int .i64 n] w fun r w' => ∃ (v : Value) (LS : List Value) (q : Nat), r = .returned v ∧ w'.ownsRow w.heap.size 35 1 v LS.length LS ∧ LS.length ≤ 5 ∧ (∀ e ∈ LS, El w' w.heap.size v.ownBlock e) ∧ q ≤ p + 1000 ∧ Rdr w' B q ∧ Beside B w w' := by
  have hB := h.lt
  obtain ⟨tI, hi0, hz0, hz1, hz2⟩ := info_parts infoTS
  have HR0 := Hid.mk' (h.alloc (.cells #[] 35))
  have HB0 := Hid.mk' ((Beside.refl B w).alloc (.cells #[] 35))
  have HO0 : Hid ((w.alloc (.cells #[] 35)).ownsRow w.heap.size 35 1 (.slice (some ⟨w.heap.size, 0, none⟩) 0 0) 0 []) := World.ownsRow_lit _ _ _ (Nat.le_refl _) (Nat.zero_le _) rfl
  clear h
  go_enter Tryz.func37, Tryz.ntmps37
  go_wp2_with fail
  generalize (w.alloc (.cells #[] 35)) = W at *
  refine (pick_any _ B p most HR0.out (by omega) (by omega) (by omega)).mono ?_
  rintro e w1 ⟨k, rfl, k0, k1, hk⟩
  have HR1 := Hid.mk' (hk.rdr HR0.out)
  have HB1 := Hid.mk' (HB0.out.trans hk.beside)
  have HO1 := Hid.mk' (owns_beside HO0.out hk.beside hB)
  clear hk HO0 HR0 HB0
  go_wp2
  go_loopw [7, 8] (fun v i wr => ∃ (j : Nat) (LS : List Value) (q : Nat), i = .int .i64 j ∧ LS.length + j ≤ 4 ∧ wr.ownsRow w.heap.size 35 1 v LS.length LS ∧ (∀ e ∈ LS, El wr w.heap.size v.ownBlock e) ∧ q + 50 * j ≤ p + 201 ∧ Rdr wr B q ∧ Beside B w wr) (fun _ i _ => (intOf i).toNat)
  case atStart => exact ⟨(1 + k).toNat, [], p + 1, by rw [Int.toNat_of_nonneg (by omega)], by simp; omega, HO1.out, (fun e he => absurd he List.not_mem_nil), by omega, HR1.out, HB1.out⟩
  case round =>
    obtain ⟨j, LS, q, rfl, hj, ho, hE, hq, hR, hb⟩ := hrel
    by_cases hj0 : 0 < j
    · have hjb : (0 : Int) < (j : Int) := by omega
      have HO := Hid.mk' ho
      have HE := Hid.mk' hE
      have HR := Hid.mk' hR
      have HB := Hid.mk' hb
      clear ho hE hR hb
      have hwo : w.heap.size ≤ wr.heap.size := HB.out.size
      have HR2 := Hid.mk' (HR.out.alloc (.cells #[] 54))
      have HB2 := Hid.mk' ((Beside.refl B wr).alloc (.cells #[] 54))
      have HO2 : Hid ((wr.alloc (.cells #[] 54)).ownsRow wr.heap.size 54 5 (.slice (some ⟨wr.heap.size, 0, none⟩) 0 0) ([] : List T).length (cellsL [])) := owns_none wr wr.heap.size (Nat.le_refl _)
      generalize hwr : wr = wo at *
      clear hwr wr
      go_wp2_with fail
      generalize (wo.alloc (.cells #[] 54)) = w2 at *
      refine (pick_any _ B q 2 HR2.out (by omega) (by omega) (by omega)).mono ?_
      rintro e w3 ⟨i, rfl, i0, i1, hk⟩
      have HR3 := Hid.mk' (hk.rdr HR2.out)
      have HB3 := Hid.mk' (HB2.out.trans hk.beside)
      have HO3 := Hid.mk' (owns_beside HO2.out hk.beside (by omega))
      clear hk HR2 HB2 HO2
      go_wp2
      go_loopw [9, 10] (fun v2 ii wx => ∃ (j2 : Nat) (L : List T) (q2 : Nat), ii = .int .i64 j2 ∧ wx.ownsRow wo.heap.size 54 5 v2 L.length (cellsL L) ∧ L.length + j2 ≤ 2 ∧ Hid (Cok L) ∧ q2 + 20 * j2 ≤ q + 41 ∧ Rdr wx B q2 ∧ Beside B wo wx) (fun _ ii _ => (intOf ii).toNat)
      case atStart => exact ⟨(1 + i).toNat, [], q + 1, by rw [Int.toNat_of_nonneg (by omega)], HO3.out, by simp; omega, cok_nil, by omega, HR3.out, HB3.out⟩
      case round =>
        obtain ⟨j2, L, q2, rfl, ho2, hl2, hc2, hq2, hR2, hb2⟩ := hrel
        have HX := Hid.mk' hb2
        have HRx := Hid.mk' hR2
        have HOx := Hid.mk' ho2
        clear hR2 hb2 ho2
        by_cases hj2 : 0 < j2
        · have hjb2 : (0 : Int) < (j2 : Int) := by omega
          go_wp2_with fail
          obtain ⟨N, hNe⟩ : ∃ N, wr.heap.size = N := ⟨_, rfl⟩
          have hBN : B < N := by have := HX.out.size; omega
          refine Code.wp_mono (Q := fun e a u => e = Exit.normal ∧ ∃ (q : Nat) (vs : Nat → Value), a = { tmps := #[Value.pointer (some ⟨B, 0, none⟩), Value.int IntKind.i64 most, Value.int IntKind.i64 n, undef, undef, undef, Value.slice none 0 0, u7, Value.int IntKind.i64 (j : Int), u9, Value.int IntKind.i64 (j2 : Int), vs 16, Value.slice (some ⟨w.heap.size, 0, none⟩) 0 0, Value.pointer (some ⟨B, 0, none⟩), Value.int IntKind.i64 most, Value.int IntKind.i64 k, Value.int IntKind.i64 (1 + k), Value.int IntKind.i64 (j : Int), Value.bool true, u19, u20, Value.slice (some ⟨wo.heap.size, 0, none⟩) 0 0, Value.pointer (some ⟨B, 0, none⟩), Value.int IntKind.i64 i, Value.int IntKind.i64 (1 + i), Value.int IntKind.i64 (j2 : Int), Value.bool true, u27, u28, vs 0, vs 1, vs 2, vs 3, vs 4, vs 5, vs 6, vs 7, vs 8, vs 9, vs 10, vs 11, vs 12, vs 13, vs 14, vs 15, u45, u46, u47, u48, u49, u50, u51, u52, u53, u54, u55, u56, u57, u58, u59, u60, u61, undef, undef, undef, undef, undef, undef, undef, undef, undef, undef], defers := [] } ∧ Rdr u B q ∧ q ≤ q2 + 18 ∧ Beside B wr u ∧ Al u N (vs 16)) ?_ ?_
          rotate_left
          · refine wp_region_inv (I := MJ (fun vs : Nat → Value => ({ tmps := #[Value.pointer (some ⟨B, 0, none⟩), Value.int IntKind.i64 most, Value.int IntKind.i64 n, undef, undef, undef, Value.slice none 0 0, u7, Value.int IntKind.i64 (j : Int), u9, Value.int IntKind.i64 (j2 : Int), vs 16, Value.slice (some ⟨w.heap.size, 0, none⟩) 0 0, Value.pointer (some ⟨B, 0, none⟩), Value.int IntKind.i64 most, Value.int IntKind.i64 k, Value.int IntKind.i64 (1 + k), Value.int IntKind.i64 (j : Int), Value.bool true, u19, u20, Value.slice (some ⟨wo.heap.size, 0, none⟩) 0 0, Value.pointer (some ⟨B, 0, none⟩), Value.int IntKind.i64 i, Value.int IntKind.i64 (1 + i), Value.int IntKind.i64 (j2 : Int), Value.bool true, u27, u28, vs 0, vs 1, vs 2, vs 3, vs 4, vs 5, vs 6, vs 7, vs 8, vs 9, vs 10, vs 11, vs 12, vs 13, vs 14, vs 15, u45, u46, u47, u48, u49, u50, u51, u52, u53, u54, u55, u56, u57, u58, u59, u60, u61, undef, undef, undef, undef, undef, undef, undef, undef, undef, undef], defers := [] } : Act)) B q2 wr N) (by kernel_rfl) ?_ ?_ ?_
            · refine ⟨q2, (fun k => #[u29, u30, u31, u32, u33, u34, u35, u36, u37, u38, u39, u40, u41, u42, u43, u44, u11].getD k undef), rfl, HRx.out.drewN 1, ?_, (Beside.refl B wr).drewN 1, by simp [hNe], by simp, ?_, ?_, ?_⟩
              · rw [undone_replicate]; exact Nat.le_refl _
              · intro h; rw [rep_getD] at h; cases h
              · intro k h; rw [rep_getD] at h; cases h
              · intro h; rw [rep_getD] at h; cases h
            · intro l a u hI i hi
              obtain ⟨q, vs, rfl, hR, hq, hBs, hN, hsz, hc, hf, h16⟩ := hI
              have hl0 := (mem_ready.1 hi).1
              have hund := undone_set (getD_false hl0)
              have hi18 : i < 18 := by
                obtain ⟨_, o, ho, _⟩ := mem_ready.1 hi
                exact (Array.getElem?_eq_some_iff.1 ho).1
              have h17 : i ≠ 17 → l.getD 17 false = false := fun hne => by
                cases hx : l.getD 17 false
                · rfl
                · have := hc hx i (by omega)
                  rw [Array.getD_eq_getD_getElem?, getD_false hl0] at this
                  simp at this
              rcases (show i = 0 ∨ i = 1 ∨ i = 2 ∨ i = 3 ∨ i = 4 ∨ i = 5 ∨ i = 6 ∨ i = 7 ∨ i = 8 ∨ i = 9 ∨ i = 10 ∨ i = 11 ∨ i = 12 ∨ i = 13 ∨ i = 14 ∨ i = 15 ∨ i = 16 ∨ i = 17 from by omega) with rfl | rfl | rfl | rfl | rfl | rfl | rfl | rfl | rfl | rfl | rfl | rfl | rfl | rfl | rfl | rfl | rfl | rfl
              · have h17 := h17 (by decide)
                refine wpOp_step rfl (fun K hK => ?_)
                go_simp
                refine hK _ _ ?_
                exact MJ.step (i := 0) (v := .pointer (some ⟨B, 0, none⟩)) hBN hR (by omega) hBs hN hsz h17 (by decide) hf h16 (Beside.refl B u) rfl (fun e => by cases e) _ rfl
              · have h17 := h17 (by decide)
                have e1 : vs 0 = .pointer (some ⟨B, 0, none⟩) := hf 0 (ready_dep hi rfl 0 (by kernel_rfl)) h17
                refine wpOp_step rfl (fun K hK => ?_)
                go_simp
                refine (pick_any u B q 2 hR (by omega) (by omega) (by omega)).mono ?_
                rintro e u' ⟨x, rfl, x0, x1, hk⟩
                refine hK _ _ ?_
                exact MJ.step (i := 1) (v := .int .i64 x) hBN (hk.rdr hR) (by omega) hBs hN hsz h17 (by decide) hf h16 hk.beside ⟨x.toNat, by omega, by rw [Int.toNat_of_nonneg x0]⟩ (fun e => by cases e) _ (by first | (rw [← e1]; done) | (rw [← e1]; rfl))
              · have h17 := h17 (by decide)
                refine wpOp_step rfl (fun K hK => ?_)
                go_simp
                refine hK _ _ ?_
                exact MJ.step (i := 2) (v := .slice (some ⟨u.heap.size, 0, none⟩) 3 3) hBN (hR.alloc _) (by omega) hBs hN hsz h17 (by decide) hf h16 (bes_alloc B u _) (sl_new3 u _ _ _ _ _ hN) (fun e => by cases e) _ rfl
              · have h17 := h17 (by decide)
                refine wpOp_step rfl (fun K hK => ?_)
                go_simp
                refine hK _ _ ?_
                exact MJ.step (i := 3) (v := .pointer (some ⟨B, 0, none⟩)) hBN hR (by omega) hBs hN hsz h17 (by decide) hf h16 (Beside.refl B u) rfl (fun e => by cases e) _ rfl
              · have h17 := h17 (by decide)
                have e1 : vs 3 = .pointer (some ⟨B, 0, none⟩) := hf 3 (ready_dep hi rfl 3 (by kernel_rfl)) h17
                refine wpOp_step rfl (fun K hK => ?_)
                go_simp
                refine (pick_any u B q 3 hR (by omega) (by omega) (by omega)).mono ?_
                rintro e u' ⟨x, rfl, x0, x1, hk⟩
                refine hK _ _ ?_
                exact MJ.step (i := 4) (v := .int .i64 x) hBN (hk.rdr hR) (by omega) hBs hN hsz h17 (by decide) hf h16 hk.beside ⟨x.toNat, by omega, by rw [Int.toNat_of_nonneg x0]⟩ (fun e => by cases e) _ (by first | (rw [← e1]; done) | (rw [← e1]; rfl))
              · have h17 := h17 (by decide)
                obtain ⟨b, e1, hb, hcb⟩ : Sl u N 3 (vs 2) := hf 2 (ready_dep hi rfl 2 (by kernel_rfl)) h17
                obtain ⟨jj, hj, e2⟩ : Pk 3 (vs 4) := hf 4 (ready_dep hi rfl 4 (by kernel_rfl)) h17
                obtain ⟨x, hx⟩ := hcb jj hj
                have hji : (jj : Int) < 3 := by omega
                clear hcb
                refine wpOp_step rfl (fun K hK => ?_)
                go_simp
                refine hK _ _ ?_
                exact MJ.step (i := 5) (v := .pointer (some ⟨b, jj, none⟩)) hBN hR (by omega) hBs hN hsz h17 (by decide) hf h16 (Beside.refl B u) ⟨b, jj, x, rfl, hb, hx⟩ (fun e => by cases e) _ (by first | (rw [← e1, ← e2]; done) | (rw [← e1, ← e2]; rfl))
              · have h17 := h17 (by decide)
                obtain ⟨b, jj, x, e1, hb, hx⟩ : Ix u N (vs 5) := hf 5 (ready_dep hi rfl 5 (by kernel_rfl)) h17
                refine wpOp_step rfl (fun K hK => ?_)
                go_simp
                refine hK _ _ ?_
                exact MJ.step (i := 6) (v := .int .i64 x) hBN hR (by omega) hBs hN hsz h17 (by decide) hf h16 (Beside.refl B u) ⟨x, rfl⟩ (fun e => by cases e) _ (by first | (rw [← e1]; done) | (rw [← e1]; rfl))
              · have h17 := h17 (by decide)
                refine wpOp_step rfl (fun K hK => ?_)
                go_simp
                refine hK _ _ ?_
                exact MJ.step (i := 7) (v := .pointer (some ⟨B, 0, none⟩)) hBN hR (by omega) hBs hN hsz h17 (by decide) hf h16 (Beside.refl B u) rfl (fun e => by cases e) _ rfl
              · have h17 := h17 (by decide)
                have e1 : vs 7 = .pointer (some ⟨B, 0, none⟩) := hf 7 (ready_dep hi rfl 7 (by kernel_rfl)) h17
                refine wpOp_step rfl (fun K hK => ?_)
                go_simp
                refine (pick_any u B q 3 hR (by omega) (by omega) (by omega)).mono ?_
                rintro e u' ⟨x, rfl, x0, x1, hk⟩
                refine hK _ _ ?_
                exact MJ.step (i := 8) (v := .int .i64 x) hBN (hk.rdr hR) (by omega) hBs hN hsz h17 (by decide) hf h16 hk.beside ⟨x.toNat, by omega, by rw [Int.toNat_of_nonneg x0]⟩ (fun e => by cases e) _ (by first | (rw [← e1]; done) | (rw [← e1]; rfl))
              · have h17 := h17 (by decide)
                obtain ⟨jj, hj, e1⟩ : Pk 3 (vs 8) := hf 8 (ready_dep hi rfl 8 (by kernel_rfl)) h17
                refine wpOp_step rfl (fun K hK => ?_)
                go_simp
                refine hK _ _ ?_
                exact MJ.step (i := 9) (v := .int .i64 ((jj : Int).tmod 2)) hBN hR (by omega) hBs hN hsz h17 (by decide) hf h16 (Beside.refl B u) ⟨_, rfl⟩ (fun e => by cases e) _ (by first | (rw [← e1]; done) | (rw [← e1]; rfl))
              · have h17 := h17 (by decide)
                refine wpOp_step rfl (fun K hK => ?_)
                go_simp
                refine hK _ _ ?_
                exact MJ.step (i := 10) (v := .slice (some ⟨u.heap.size, 0, none⟩) 3 3) hBN (hR.alloc _) (by omega) hBs hN hsz h17 (by decide) hf h16 (bes_alloc B u _) (sl_new3 u _ _ _ _ _ hN) (fun e => by cases e) _ rfl
              · have h17 := h17 (by decide)
                refine wpOp_step rfl (fun K hK => ?_)
                go_simp
                refine hK _ _ ?_
                exact MJ.step (i := 11) (v := .pointer (some ⟨B, 0, none⟩)) hBN hR (by omega) hBs hN hsz h17 (by decide) hf h16 (Beside.refl B u) rfl (fun e => by cases e) _ rfl
              · have h17 := h17 (by decide)
                have e1 : vs 11 = .pointer (some ⟨B, 0, none⟩) := hf 11 (ready_dep hi rfl 11 (by kernel_rfl)) h17
                refine wpOp_step rfl (fun K hK => ?_)
                go_simp
                refine (pick_any u B q 3 hR (by omega) (by omega) (by omega)).mono ?_
                rintro e u' ⟨x, rfl, x0, x1, hk⟩
                refine hK _ _ ?_
                exact MJ.step (i := 12) (v := .int .i64 x) hBN (hk.rdr hR) (by omega) hBs hN hsz h17 (by decide) hf h16 hk.beside ⟨x.toNat, by omega, by rw [Int.toNat_of_nonneg x0]⟩ (fun e => by cases e) _ (by first | (rw [← e1]; done) | (rw [← e1]; rfl))
              · have h17 := h17 (by decide)
                obtain ⟨b, e1, hb, hcb⟩ : Sl u N 3 (vs 10) := hf 10 (ready_dep hi rfl 10 (by kernel_rfl)) h17
                obtain ⟨jj, hj, e2⟩ : Pk 3 (vs 12) := hf 12 (ready_dep hi rfl 12 (by kernel_rfl)) h17
                obtain ⟨x, hx⟩ := hcb jj hj
                have hji : (jj : Int) < 3 := by omega
                clear hcb
                refine wpOp_step rfl (fun K hK => ?_)
                go_simp
                refine hK _ _ ?_
                exact MJ.step (i := 13) (v := .pointer (some ⟨b, jj, none⟩)) hBN hR (by omega) hBs hN hsz h17 (by decide) hf h16 (Beside.refl B u) ⟨b, jj, x, rfl, hb, hx⟩ (fun e => by cases e) _ (by first | (rw [← e1, ← e2]; done) | (rw [← e1, ← e2]; rfl))
              · have h17 := h17 (by decide)
                obtain ⟨b, jj, x, e1, hb, hx⟩ : Ix u N (vs 13) := hf 13 (ready_dep hi rfl 13 (by kernel_rfl)) h17
                refine wpOp_step rfl (fun K hK => ?_)
                go_simp
                refine hK _ _ ?_
                exact MJ.step (i := 14) (v := .int .i64 x) hBN hR (by omega) hBs hN hsz h17 (by decide) hf h16 (Beside.refl B u) ⟨x, rfl⟩ (fun e => by cases e) _ (by first | (rw [← e1]; done) | (rw [← e1]; rfl))
              · have h17 := h17 (by decide)
                obtain ⟨jj, hj, e0⟩ : Pk 2 (vs 1) := hf 1 (ready_dep hi rfl 1 (by kernel_rfl)) h17
                obtain ⟨x1, e1⟩ : Ld (vs 6) := hf 6 (ready_dep hi rfl 6 (by kernel_rfl)) h17
                obtain ⟨x2, e2⟩ : Ld (vs 9) := hf 9 (ready_dep hi rfl 9 (by kernel_rfl)) h17
                obtain ⟨x3, e3⟩ : Ld (vs 14) := hf 14 (ready_dep hi rfl 14 (by kernel_rfl)) h17
                refine wpOp_step rfl (fun K hK => ?_)
                go_simp
                refine hK _ _ ?_
                exact MJ.step (i := 15) (v := .agg #[.int .i64 (jj : Int), .int .i64 x1, .int .i64 x2, .int .i64 x3]) hBN hR (by omega) hBs hN hsz h17 (by decide) hf h16 (Beside.refl B u) ⟨_, x1, x2, x3, rfl⟩ (fun e => by cases e) _ (by first | (rw [← e0, ← e1, ← e2, ← e3]; done) | (rw [← e0, ← e1, ← e2, ← e3]; rfl))
              · have h17 := h17 (by decide)
                refine wpOp_step rfl (fun K hK => ?_)
                go_simp
                refine hK _ _ ?_
                exact MJ.step (i := 16) (v := .pointer (some ⟨u.heap.size, 0, none⟩)) hBN (hR.alloc _) (by omega) hBs hN hsz h17 (by decide) hf h16 (bes_alloc B u _) trivial (fun _ => al_new u _ _ _ _ _ _ hN) _ rfl
              · have h17f : l.getD 17 false = false := by rw [Array.getD_eq_getD_getElem?, getD_false hl0]; rfl
                have hall : ∀ k, k < 17 → l.getD k false = true := fun k hk => by
                  have h5 : k = 0 ∨ k = 1 ∨ k = 2 ∨ k = 3 ∨ k = 4 ∨ k = 5 ∨ k = 6 ∨ k = 7 ∨ k = 8 ∨ k = 9 ∨ k = 10 ∨ k = 11 ∨ k = 12 ∨ k = 13 ∨ k = 14 ∨ k = 15 ∨ k = 16 := by omega
                  rcases h5 with rfl | rfl | rfl | rfl | rfl | rfl | rfl | rfl | rfl | rfl | rfl | rfl | rfl | rfl | rfl | rfl | rfl <;> exact ready_dep hi rfl _ (by kernel_rfl)
                obtain ⟨x0, x1, x2, x3, e20⟩ : Ag (vs 15) := hf 15 (hall 15 (by omega)) h17f
                obtain ⟨g, e21, hgN, hgs, hgc, hgf⟩ : Al u N (vs 16) := h16 (hall 16 (by omega))
                obtain ⟨y0, c0⟩ := hgc 0 (by omega)
                obtain ⟨y1, c1⟩ := hgc 1 (by omega)
                obtain ⟨y2, c2⟩ := hgc 2 (by omega)
                obtain ⟨y3, c3⟩ := hgc 3 (by omega)
                have f0 := hgf 0
                have f1 := hgf 1
                have f2 := hgf 2
                have f3 := hgf 3
                refine wpOp_step rfl (fun K hK => ?_)
                have hAl : Al ((((u.setCell ⟨g, 0, none⟩ (.int .i64 x0)).setCell ⟨g, 1, none⟩ (.int .i64 x1)).setCell ⟨g, 2, none⟩ (.int .i64 x2)).setCell ⟨g, 3, none⟩ (.int .i64 x3)) N (vs 16) := by
                  refine ⟨g, e21, hgN, by simpa [World.setCell] using hgs, fun i hi => ?_, fun i => ?_⟩
                  · have h5 : i = 0 ∨ i = 1 ∨ i = 2 ∨ i = 3 := by omega
                    rcases h5 with rfl | rfl | rfl | rfl
                    · exact ⟨x0, by go_simp⟩
                    · exact ⟨x1, by go_simp⟩
                    · exact ⟨x2, by go_simp⟩
                    · exact ⟨x3, by go_simp⟩
                  · simp only [World.frozen?_setCell]; exact hgf i
                have hRn := (((hR.set (b := g) (o := 0) (v := .int .i64 x0) (by omega)).set (b := g) (o := 1) (v := .int .i64 x1) (by omega)).set (b := g) (o := 2) (v := .int .i64 x2) (by omega)).set (b := g) (o := 3) (v := .int .i64 x3) (by omega)
                have hBn := (((hBs.set (b := g) (o := 0) (v := .int .i64 x0) (by omega)).set (b := g) (o := 1) (v := .int .i64 x1) (by omega)).set (b := g) (o := 2) (v := .int .i64 x2) (by omega)).set (b := g) (o := 3) (v := .int .i64 x3) (by omega)
                clear hgc hgf hf h16
                go_simp
                refine hK _ _ ?_
                refine ⟨q, vs, by dsimp only; rw [e20, e21], hRn, by omega, hBn, by simpa [World.setCell] using hN, by simp [hsz], fun _ k hk => ?_, fun k _ hk => ?_, fun _ => hAl⟩
                · rw [getD_set_ne false (by omega)]; exact hall k hk
                · rw [getD_set_eq false (by omega)] at hk; cases hk
            · intro l a u hI hr
              obtain ⟨q, vs, rfl, hR, hq, hBs, hN, hsz, hc, hf, h16⟩ := hI
              refine ⟨rfl, q, vs, rfl, hR, by omega, hBs, h16 ?_⟩
              cases hx : l.getD 16 false
              · exfalso
                rw [List.eq_nil_iff_forall_not_mem] at hr
                refine hr 16 (mem_ready.2 ⟨?_, _, rfl, ?_⟩)
                · rw [Array.getD_eq_getD_getElem?] at hx ⊢
                  rw [Array.getElem?_eq_getElem (by omega)] at hx ⊢
                  simpa using hx
                · intro e he
                  have he2 : e ∈ ([] : List _) := Array.mem_def.1 he
                  cases he2
              · rfl
          rintro e a u ⟨rfl, q3, vs, rfl, hR3, hq3, hBs, hal⟩
          obtain ⟨g, e16, hgN, hg4⟩ := W4d.of_al hal
          rw [e16]
          have HR4 := Hid.mk' hR3
          have HB4 := Hid.mk' hBs
          have HG4 := Hid.mk' hg4
          have hwx : wo.heap.size ≤ g := by have := HX.out.size; omega
          clear hR3 hBs hal hg4 e16
          go_wp2_with fail
          refine (pick_any u B q3 4 HR4.out (by omega) (by omega) (by omega)).mono ?_
          rintro e w5 ⟨x, rfl, x0, x1, hk⟩
          have HR5 := Hid.mk' (hk.rdr HR4.out)
          have HB5 := Hid.mk' (HB4.out.trans hk.beside)
          have HG5 := Hid.mk' (HG4.out.move hk.beside (by omega))
          clear hk HR4 HB4 HG4
          obtain ⟨⟨a0, a1, a2, a3, c0, c1, c2, c3⟩, f0, f1, f2, f3⟩ := HG5.out
          by_cases hx : x = 0
          · subst hx
            have hS6 : G4 g a0 a1 2 a3 (w5.setCell ⟨g, 2, none⟩ (.int .i64 2)) := ⟨by go_simp, by go_simp, by go_simp, by go_simp⟩
            have HR6 := Hid.mk' (HR5.out.set (b := g) (o := 2) (v := .int .i64 2) (by omega))
            have HBx6 := Hid.mk' (HB5.out.set (b := g) (o := 2) (v := .int .i64 2) (by omega))
            go_wp2_with fail
            clear c0 c1 c2 c3 f0 f1 f2 f3 HG5
            generalize (w5.setCell ⟨g, 2, none⟩ (.int .i64 2)) = w6 at *
            have hSd : G4 g a0 a1 2 a3 w6.drew := hS6
            have HRd : Hid (Rdr w6.drew B (q3 + 1)) := HR6.out.drewN 1
            have HBd : Hid (Beside B wr w6.drew) := HBx6.out.drewN 1
            have hgB : g ≠ B := by omega
            go_region_held3 (fun u => u.cell? ⟨g, 0, none⟩ = some (.int .i64 a0) ∧ u.cell? ⟨g, 1, none⟩ = some (.int .i64 a1) ∧ u.cell? ⟨g, 2, none⟩ = some (.int .i64 2) ∧ u.cell? ⟨g, 3, none⟩ = some (.int .i64 a3)) (first | with_reducible exact hSd | with_reducible exact G4.beside hSd hk.beside hgB | with_reducible exact G4.below (G4.beside hSd hk.beside hgB) hb8) (first | (go_at_call 38; (with_reducible refine (pick_any _ B _ 100 HRd.out (by omega) (by omega) (by omega)).mono ?_); rintro e w7 ⟨c, rfl, c0, c1, hk⟩; have hb7 : Beside B wr w7 := (HBd.out.trans hk.beside); have ho7 := owns_beside HOx.out hb7 (by omega); have hs7 : wo.heap.size ≤ w7.heap.size := (HX.out.trans hb7).size; have hw1 : IntKind.i64.wrap (1 + c) = 1 + c := (by rw [IntKind.wrap_i64]; omega)) | (go_at_call 78; (with_reducible refine (l4PutS w7 wo.heap.size u9 L (1 + c) a0 a1 2 a3 ho7 hs7 (by omega) hc2.out (by omega) (by omega)).mono ?_); rintro e w8 ⟨v8, rfl, hb8, ho8⟩))
            have HR8 := Hid.mk' ((hk.rdr HRd.out).beside (beside_of_below hb8))
            have HB8 := Hid.mk' (HX.out.trans (hb7.trans (beside_of_below hb8)))
            have HO8 := Hid.mk' ho8
            have HC8 := Hid.mk' (putT_c (c := 1 + c) (m := ⟨a0, a1, 2, a3⟩) hc2.out (by omega) (by omega))
            have hl8 := putT_len (1 + c) ⟨a0, a1, 2, a3⟩ L
            clear hk hb8 ho8 hSd hb7 ho7
            go_wp2
            go_roundw
            case rel => exact ⟨j2 - 1, putT (1 + c) ⟨a0, a1, 2, a3⟩ L, _, by first | go_num | (congr 1; omega), HO8.out, by omega, HC8.out, by omega, HR8.out, HB8.out⟩
            case measure => simp [intOf]; omega
          · have hxb : (x == 0) = false := by simp [hx]
            have hS6 : G4 g a0 a1 a2 a3 w5 := ⟨c0, c1, c2, c3⟩
            have HR6 := HR5
            have HBx6 := HB5
            clear c0 c1 c2 c3 f0 f1 f2 f3 HG5 hx
            go_wp2_with fail
            generalize w5 = w6 at *
            have hSd : G4 g a0 a1 a2 a3 w6.drew := hS6
            have HRd : Hid (Rdr w6.drew B (q3 + 1)) := HR6.out.drewN 1
            have HBd : Hid (Beside B wr w6.drew) := HBx6.out.drewN 1
            have hgB : g ≠ B := by omega
            go_region_held3 (fun u => u.cell? ⟨g, 0, none⟩ = some (.int .i64 a0) ∧ u.cell? ⟨g, 1, none⟩ = some (.int .i64 a1) ∧ u.cell? ⟨g, 2, none⟩ = some (.int .i64 a2) ∧ u.cell? ⟨g, 3, none⟩ = some (.int .i64 a3)) (first | with_reducible exact hSd | with_reducible exact G4.beside hSd hk.beside hgB | with_reducible exact G4.below (G4.beside hSd hk.beside hgB) hb8) (first | (go_at_call 38; (with_reducible refine (pick_any _ B _ 100 HRd.out (by omega) (by omega) (by omega)).mono ?_); rintro e w7 ⟨c, rfl, c0, c1, hk⟩; have hb7 : Beside B wr w7 := (HBd.out.trans hk.beside); have ho7 := owns_beside HOx.out hb7 (by omega); have hs7 : wo.heap.size ≤ w7.heap.size := (HX.out.trans hb7).size; have hw1 : IntKind.i64.wrap (1 + c) = 1 + c := (by rw [IntKind.wrap_i64]; omega)) | (go_at_call 78; (with_reducible refine (l4PutS w7 wo.heap.size u9 L (1 + c) a0 a1 a2 a3 ho7 hs7 (by omega) hc2.out (by omega) (by omega)).mono ?_); rintro e w8 ⟨v8, rfl, hb8, ho8⟩))
            have HR8 := Hid.mk' ((hk.rdr HRd.out).beside (beside_of_below hb8))
            have HB8 := Hid.mk' (HX.out.trans (hb7.trans (beside_of_below hb8)))
            have HO8 := Hid.mk' ho8
            have HC8 := Hid.mk' (putT_c (c := 1 + c) (m := ⟨a0, a1, a2, a3⟩) hc2.out (by omega) (by omega))
            have hl8 := putT_len (1 + c) ⟨a0, a1, a2, a3⟩ L
            clear hk hb8 ho8 hSd hb7 ho7
            go_wp2
            go_roundw
            case rel => exact ⟨j2 - 1, putT (1 + c) ⟨a0, a1, a2, a3⟩ L, _, by first | go_num | (congr 1; omega), HO8.out, by omega, HC8.out, by omega, HR8.out, HB8.out⟩
            case measure => simp [intOf]; omega
        · obtain rfl : j2 = 0 := by omega
          have hnj : ¬ (0 : Int) < ((0 : Nat) : Int) := by omega
          obtain ⟨pa, pcap, hv9, hout⟩ := out_of_owns HOx.out (by omega)
          subst hv9
          have hOw := owns_beside HO.out HX.out hB
          have hEw : ∀ e ∈ LS, El wr w.heap.size u7.ownBlock e := fun e he => (HE.out e he).beside HX.out hB
          have hElt : ∀ kk, u7.ownBlock = some kk → kk < wo.heap.size := fun kk hkk => (HO.out.lt kk hkk).2
          have hBw := HB.out.trans HX.out
          have hwx : wo.heap.size ≤ wr.heap.size := HX.out.size
          by_cases hL : 0 < L.length
          · have hLb : (0 : Int) < (L.length : Int) := by omega
            have hP : El wr w.heap.size u7.ownBlock (.slice pa L.length pcap) := ⟨pa, L.length, pcap, lf L, rfl, hout.1, by omega, hout.2.2.imp id fun ⟨b, off, e, hlo⟩ => ⟨b, off, e, by omega, fun ee => by have := hElt b ee.symm; omega⟩⟩
            have hnew := heap_alloc_new wr (.cells #[.slice pa L.length pcap] 35)
            have HN := Hid.mk' hnew
            have hO5 := hOw.alloc (.cells #[.slice pa L.length pcap] 35)
            have HE5 : Hid (∀ e ∈ LS ++ [.slice pa L.length pcap], El (wr.alloc (.cells #[.slice pa L.length pcap] 35)) w.heap.size u7.ownBlock e) := fun e he => by
              rcases List.mem_append.1 he with h | h
              · exact (hEw e h).below (bel_one _ _)
              · have : e = .slice pa L.length pcap := by simpa using h
                subst this
                exact hP.below (bel_one _ _)
            have HR5 := Hid.mk' (HRx.out.alloc (.cells #[.slice pa L.length pcap] 35))
            have HB5 := Hid.mk' (hBw.alloc (.cells #[.slice pa L.length pcap] 35))
            have HLt : Hid (∀ kk, u7.ownBlock = some kk → w.heap.size ≤ kk) := fun kk hkk => (HO.out.lt kk hkk).1
            have hnews : ∀ jj u, [Value.slice pa L.length pcap][jj]? = some u → (wr.alloc (.cells #[.slice pa L.length pcap] 35)).cell? ((⟨wr.heap.size, 0, none⟩ : Addr).add jj) = some u := World.news_of_block HN.out
            have hone : ∀ u ∈ [Value.slice pa L.length pcap], u.oneCell' = true := fun u hu => by
              have : u = .slice pa L.length pcap := by simpa using hu
              subst this; rfl
            have hbase : w.heap.size ≤ (wr.alloc (.cells #[.slice pa L.length pcap] 35)).heap.size := by simp; omega
            have hmax : LS.length + 1 ≤ maxLen := by unfold maxLen; omega
            clear hP hEw hElt hnew hOw hout
            go_wp2_with (at_builtin; refine wpList_append_lies _ rfl (.tmp 58) (.tmp 60) 23 rfl w.heap.size 35 tI _ 1 24 Tryz.underlying23 hi0 hz0 hz1 hz2 rfl (by omega) _ LS.length LS rfl hO5 ⟨wr.heap.size, 0, none⟩ 1 1 [.slice pa L.length pcap] rfl rfl hnews hone (by omega) hmax (by omega) hbase _ rfl ?_; intro g0 cap0 w5 hown1 hgrow hat hlt1)
            have HO6 := Hid.mk' hown1
            have HR6 := Hid.mk' (HR5.out.grown hgrow (fun kk hkk => by have := HLt.out kk hkk; omega))
            have HB6 := Hid.mk' (HB5.out.grown hgrow HLt.out)
            have HE6 : Hid (∀ e ∈ LS ++ [.slice pa L.length pcap], El w5 w.heap.size (some g0) e) := fun e he => (HE5.out e he).grown hgrow hat (Nat.le_refl _)
            go_roundw
            case rel => exact ⟨j - 1, LS ++ [.slice pa L.length pcap], q2, by first | go_num | (congr 1; omega), by simp; omega, by rw [List.length_append]; exact HO6.out, HE6.out, by omega, HR6.out, HB6.out⟩
            case measure => simp [intOf]; omega
          · have hLb : ¬ (0 : Int) < (L.length : Int) := by omega
            have HOw := Hid.mk' hOw
            have HEw := Hid.mk' hEw
            have HBw := Hid.mk' hBw
            clear hOw hEw hBw hElt hout
            go_wp2
            go_roundw
            case rel => exact ⟨j - 1, LS, q2, by first | go_num | (congr 1; omega), by omega, HOw.out, HEw.out, by omega, HRx.out, HBw.out⟩
            case measure => simp [intOf]; omega
    · obtain rfl : j = 0 := by omega
      have hnj : ¬ (0 : Int) < ((0 : Nat) : Int) := by omega
      have HO := Hid.mk' ho
      have HE := Hid.mk' hE
      have HR := Hid.mk' hR
      have HB := Hid.mk' hb
      have hwo : w.heap.size ≤ wr.heap.size := hb.size
      clear ho hE hR hb
      go_wp2_with fail
      refine (pick_any wr B q n HR.out (by omega) (by omega) (by omega)).mono ?_
      rintro e w5 ⟨x, rfl, x0, x1, hk⟩
      have HR5 := Hid.mk' (hk.rdr HR.out)
      have HB5 := Hid.mk' (HB.out.trans hk.beside)
      have HO5 := Hid.mk' (owns_beside HO.out hk.beside hB)
      have HE5 : Hid (∀ e ∈ LS, El w5 w.heap.size u7.ownBlock e) := fun e he => (HE.out e he).beside hk.beside hB
      have hw5 : w.heap.size ≤ w5.heap.size := HB5.out.size
      clear hk HO HE HR HB
      by_cases hx : x = 0
      · subst hx
        go_wp2_with fail
        refine (any_any5 w5 B _ 1 HR5.out (by omega) (by omega) (by omega)).mono ?_
        rintro e w6 ⟨pa, m, pcap, fa, q6, rfl, hrd, hm5, hblk, hq6, hR6, hb6⟩
        have hOw := owns_beside HO5.out hb6 hB
        have hElt : ∀ kk, u7.ownBlock = some kk → kk < w5.heap.size := fun kk hkk => (HO5.out.lt kk hkk).2
        have hP : El w6 w.heap.size u7.ownBlock (.slice pa m pcap) := ⟨pa, m, pcap, fa, rfl, hrd, hm5, hblk.imp id fun ⟨b, off, e, hlo⟩ => ⟨b, off, e, by omega, fun ee => by have := hElt b ee.symm; omega⟩⟩
        have hnew := heap_alloc_new w6 (.cells #[.slice pa m pcap] 35)
        have hO7 := hOw.alloc (.cells #[.slice pa m pcap] 35)
        have HE7 : Hid (∀ e ∈ LS ++ [.slice pa m pcap], El (w6.alloc (.cells #[.slice pa m pcap] 35)) w.heap.size u7.ownBlock e) := fun e he => by
          rcases List.mem_append.1 he with h | h
          · exact ((HE5.out e h).beside hb6 hB).below (bel_one _ _)
          · have : e = .slice pa m pcap := by simpa using h
            subst this
            exact hP.below (bel_one _ _)
        have HR7 := Hid.mk' (hR6.alloc (.cells #[.slice pa m pcap] 35))
        have HB7 := Hid.mk' ((HB5.out.trans hb6).alloc (.cells #[.slice pa m pcap] 35))
        have HLt : Hid (∀ kk, u7.ownBlock = some kk → w.heap.size ≤ kk) := fun kk hkk => (HO5.out.lt kk hkk).1
        have hnews : ∀ jj u, [Value.slice pa m pcap][jj]? = some u → (w6.alloc (.cells #[.slice pa m pcap] 35)).cell? ((⟨w6.heap.size, 0, none⟩ : Addr).add jj) = some u := World.news_of_block hnew
        have hone : ∀ u ∈ [Value.slice pa m pcap], u.oneCell' = true := fun u hu => by
          have : u = .slice pa m pcap := by simpa using hu
          subst this; rfl
        have hbase : w.heap.size ≤ (w6.alloc (.cells #[.slice pa m pcap] 35)).heap.size := by have := hb6.size; simp; omega
        have hmax : LS.length + 1 ≤ maxLen := by unfold maxLen; omega
        clear hP hElt hnew hOw hrd hblk hR6 hb6
        go_wp2_with (at_builtin; refine wpList_append_lies _ rfl (.tmp 66) (.tmp 69) 23 rfl w.heap.size 35 tI _ 1 24 Tryz.underlying23 hi0 hz0 hz1 hz2 rfl (by omega) _ LS.length LS rfl hO7 ⟨w6.heap.size, 0, none⟩ 1 1 [.slice pa m pcap] rfl rfl hnews hone (by omega) hmax (by omega) hbase _ rfl ?_; intro g0 cap0 w7 hown1 hgrow hat hlt1)
        have HO8 := Hid.mk' hown1
        have HR8 := Hid.mk' (HR7.out.grown hgrow (fun kk hkk => by have := HLt.out kk hkk; omega))
        have HB8 := Hid.mk' (HB7.out.grown hgrow HLt.out)
        have HE8 : Hid (∀ e ∈ LS ++ [.slice pa m pcap], El w7 w.heap.size (some g0) e) := fun e he => (HE7.out e he).grown hgrow hat (Nat.le_refl _)
        clear hown1 hgrow hat hlt1
        go_ret
        exact ⟨_, LS ++ [.slice pa m pcap], q6, rfl, by rw [List.length_append]; exact HO8.out, by simp; omega, HE8.out, by omega, HR8.out, HB8.out⟩
      · have hxb : (x == 0) = false := by simp [hx]
        go_wp2
        go_ret
        exact ⟨_, LS, q + 1, rfl, HO5.out, by omega, HE5.out, by omega, HR5.out, HB5.out⟩
end Go.Proofs.YtmlaedpamobmhaaGreat
namespace Go.Proofs.YtmlaedpamobmhaaGreat
open Go.RowKit Go.Deep Go.Joins
set_option linter.unusedVariables false
set_option linter.unusedSimpArgs false

def PvD (w : World) (e : Ending) (w' : World) : Prop := ∃ (la : Option Addr) (nb lc : Nat) (ad : Nat → Option Addr) (cp : Nat → Nat) (BL : Nat → List T) (pa : Option Addr) (np pc g : Nat) (A : Nat → Option Addr) (C : Nat → Nat) (AD : Nat → Nat → Option Addr) (CP : Nat → Nat → Nat) (BP : Nat → Nat → List T) (d : Bool) (a2 : Option Addr) (n2 c2 : Nat) (ad2 : Nat → Option Addr) (cp2 : Nat → Nat) (L2 : Nat → List T),
  e = .returned (.tuple #[.agg #[.slice la nb lc, .slice pa np pc, .bool d], .slice a2 n2 c2]) ∧ RdS w' la nb lc ad (lN BL) cp (fN BL) ∧ R3 w' pa np pc g A C AD CP BP ∧ RdS w' a2 n2 c2 ad2 (lN L2) cp2 (fN L2) ∧ nb ≤ 13 ∧ np ≤ 12 ∧ n2 ≤ 5 ∧ Below w.heap.size w w'
/-- a drawn list lies behind what was there. -/
theorem rso_lo {w : World} {b0 lo lo' : Nat} {g' : Option Nat} {v : Value} {LS : List Value} (h : w.ownsRow lo 35 1 v LS.length LS) (hE : ∀ e ∈ LS, El w lo' g' e) (hl : LS.length ≤ 100) (h1 : b0 ≤ lo) (h2 : b0 ≤ lo') : ∃ a c ad cp L, v = .slice a LS.length c ∧ RSo (fun b => b0 ≤ b) w a LS.length c ad cp L := by
  have each : ∀ i, i < LS.length → ∃ t : (Option Addr × Nat) × List T, LS[i]? = some (.slice t.1.1 t.2.length t.1.2) ∧ RL w t.1.1 t.1.2 t.2 ∧ (t.2.length = 0 ∨ ∀ b off, t.1.1 = some ⟨b, off, none⟩ → b0 ≤ b) := fun i hi => by
    obtain ⟨a, n, c, f, e, hr, _, hb⟩ := hE (LS[i]) (List.getElem_mem hi)
    obtain ⟨X, rfl, hX⟩ := list_of hr
    exact ⟨((a, c), X), by rw [List.getElem?_eq_getElem hi, e], hX, hb.imp id (fun ⟨b, off, e1, hlo, _⟩ b' off' e2 => by rw [e1] at e2; cases e2; omega)⟩
  haveI : Inhabited ((Option Addr × Nat) × List T) := ⟨((none, 0), [])⟩
  obtain ⟨q, hq⟩ := choose_lt each
  rcases h.2 with ⟨hv, h0⟩ | ⟨b, cap, cur, hv, hlo, hg, hnc, _⟩
  · exact ⟨none, 0, fun i => (q i).1.1, fun i => (q i).1.2, fun i => (q i).2, by rw [hv, h0], ⟨by omega, by omega, .inl h0, fun i hi => (hq i hi).2.1⟩, .inl h0, fun i hi => (hq i hi).2.2⟩
  · have hr := h
    rw [hv] at hr
    refine ⟨some ⟨b, 0, none⟩, cap, fun i => (q i).1.1, fun i => (q i).1.2, fun i => (q i).2, hv, ⟨hnc, by omega, .inr ⟨b, 0, rfl, (hr.lt b rfl).2, fun i hi => ?_⟩, fun i hi => (hq i hi).2.1⟩, .inr (fun b' off' e => ?_), fun i hi => (hq i hi).2.2⟩
    · rw [Nat.zero_add, hr.cellAt i (by omega), (hq i hi).1]
    · cases e; omega
/-- the first proof is another one. -/
theorem bsw_setP {Y : Nat → Prop} {w : World} {lo : Nat} {tvL : Value} {pb cap g nL : Nat} {L : Nat → List T} {nP : Nat} {Q : Nat → Nat → List T} {LS PS : List Value} (h : BsW Y w lo tvL (.slice (some ⟨pb, 0, none⟩) nP cap) g nL L nP Q LS PS) (h0 : 0 < nP) {a : Option Addr} {c : Nat} {ad : Nat → Option Addr} {cp : Nat → Nat} {R : Nat → List T} (hr : RSo (NB Y tvL (.slice (some ⟨pb, 0, none⟩) nP cap)) w a g c ad cp R) :
    BsW Y (w.setCell ⟨pb, 0, none⟩ (.slice a g c)) lo tvL (.slice (some ⟨pb, 0, none⟩) nP cap) g nL L nP (fun i => if i = 0 then R else Q i) LS (PS.set 0 (.slice a g c)) := by
  have f : Fr (fun k => k = pb) w (w.setCell ⟨pb, 0, none⟩ (.slice a g c)) := (Fr.refl _ w).set (fun _ => rfl)
  have hl := own_len h.rP
  refine ⟨f.owns h.rL (fun k hk q => ?_), ?_, fun i hi => (h.eL i hi).imp fun a ⟨c, e, hr⟩ => ⟨c, e, hr.fr f (fun b nb q => nb.2.1 (by rw [q]; rfl))⟩, fun i hi => ?_, h.nL, h.nP⟩
  · subst q
    exact (h.nL k hk).1 rfl
  · rcases h.rP.2 with ⟨hv, _⟩ | ⟨g', cap', cur, hv, hlo, hg, hnc, hmx, hs, ht⟩
    · cases hv
    · cases hv
      refine ⟨by rw [List.length_set]; exact h.rP.1, .inr ⟨pb, cap, cur.setIfInBounds 0 (.slice a g c), rfl, hlo, heap_setCell_same w pb 0 cur _ _ hg, hnc, hmx, by simp [hs], ?_⟩⟩
      rw [← ht, Array.toList_setIfInBounds, List.take_set]
  · by_cases e : i = 0
    · subst e
      refine ⟨a, c, ad, cp, ?_, ?_⟩
      · rw [List.getElem?_set_self (by omega)]
      · rw [if_pos rfl]; exact hr.fr f (fun b nb q => nb.2.1 (by rw [q]; rfl))
    · obtain ⟨a', c', ad', cp', e1, hr'⟩ := h.eP i hi
      refine ⟨a', c', ad', cp', ?_, ?_⟩
      · rw [List.getElem?_set_ne (by omega)]; exact e1
      · rw [if_neg e]; exact hr'.fr f (fun b nb q => nb.2.1 (by rw [q]; rfl))
def YP (B X : Nat) (b : Nat) : Prop := b ≤ B ∨ b = X
/-- the state of the draw: its reader is block B, the basis lies in box X, the answer's box is the first new one. -/
structure Pv (w : World) (B X : Nat) (u : World) (p : Nat) (aa : Option Addr) (n ca : Nat) (ada : Nat → Option Addr) (cpa : Nat → Nat) (L : Nat → List T) (lo : Nat) (tvL tvP : Value) (d : Bool) (nL : Nat) (BL : Nat → List T) (nP : Nat) (BP : Nat → Nat → List T) (LS PS : List Value) : Prop where
  bel : Below w.heap.size w u
  rdr : Rdr u B p
  lst : RSo (fun b => B + 1 ≤ b ∧ b < lo) u aa n ca ada cpa L
  bas : BsW (YP B X) u lo tvL tvP n nL BL nP BP LS PS
  box : Own3 u X tvL tvP (.bool d)
  res : ∃ v0 v1 v2, Own3 u w.heap.size v0 v1 v2
  hB : w.heap.size < B
  hX : B < X
  hlo : lo ≤ X
theorem Pv.fr {w u u' : World} {B X p q : Nat} {aa : Option Addr} {n ca : Nat} {ada : Nat → Option Addr} {cpa : Nat → Nat} {L : Nat → List T} {lo : Nat} {tvL tvP : Value} {d : Bool} {nL : Nat} {BL : Nat → List T} {nP : Nat} {BP : Nat → Nat → List T} {LS PS : List Value} (h : Pv w B X u p aa n ca ada cpa L lo tvL tvP d nL BL nP BP LS PS) (hb : Beside B u u') (hr : Rdr u' B q) : Pv w B X u' q aa n ca ada cpa L lo tvL tvP d nL BL nP BP LS PS where
  bel := hb.below h.bel (Nat.le_of_lt h.hB) h.bel.size
  rdr := hr
  lst := h.lst.fr (fr_beside hb) (fun b hn e => by have := hn.1; omega)
  bas := h.bas.fr (fr_beside hb) (fun b e => .inl (by omega))
  box := h.box.fr (fr_beside hb) (by have := h.hX; omega)
  res := by obtain ⟨v0, v1, v2, k⟩ := h.res; exact ⟨v0, v1, v2, k.fr (fr_beside hb) (by have := h.hB; omega)⟩
  hB := h.hB
  hX := h.hX
  hlo := h.hlo
theorem Pv.setP {w u : World} {B X p : Nat} {aa : Option Addr} {n ca : Nat} {ada : Nat → Option Addr} {cpa : Nat → Nat} {L : Nat → List T} {lo : Nat} {tvL : Value} {pb pc : Nat} {d : Bool} {nL : Nat} {BL : Nat → List T} {nP : Nat} {BP : Nat → Nat → List T} {LS PS : List Value} (h : Pv w B X u p aa n ca ada cpa L lo tvL (.slice (some ⟨pb, 0, none⟩) nP pc) d nL BL nP BP LS PS) (h0 : 0 < nP) {ra : Option Addr} {rc : Nat} {rad : Nat → Option Addr} {rcp : Nat → Nat} {R : Nat → List T} (hr : RSo (NB (YP B X) tvL (.slice (some ⟨pb, 0, none⟩) nP pc)) u ra n rc rad rcp R) :
    Pv w B X (u.setCell ⟨pb, 0, none⟩ (.slice ra n rc)) p aa n ca ada cpa L lo tvL (.slice (some ⟨pb, 0, none⟩) nP pc) d nL BL nP (fun i => if i = 0 then R else BP i) LS (PS.set 0 (.slice ra n rc)) := by
  have hY : ¬ YP B X pb := h.bas.nP pb rfl
  have hB : B < pb := by
    by_cases q : pb ≤ B
    · exact absurd (.inl q) hY
    · omega
  have hX : pb ≠ X := fun e => hY (.inr e)
  have hlo := (h.bas.rP.lt pb rfl).1
  have hb := h.hB
  have f : Fr (fun k => k = pb) u (u.setCell ⟨pb, 0, none⟩ (.slice ra n rc)) := (Fr.refl (fun k => k = pb) u).set (fun _ => rfl)
  exact {
    bel := Fr.below h.bel f (fun k e => by omega) (Nat.le_refl _)
    rdr := h.rdr.set hB
    lst := h.lst.fr f (fun b hn e => by have := hn.2; omega)
    bas := bsw_setP h.bas h0 hr
    box := h.box.fr f (fun e => hX e.symm)
    res := by obtain ⟨v0, v1, v2, k⟩ := h.res; exact ⟨v0, v1, v2, k.fr f (by omega)⟩
    hB := h.hB
    hX := h.hX
    hlo := h.hlo }
theorem Pv.app {w w7 : World} {B X p : Nat} {aa : Option Addr} {n ca : Nat} {ada : Nat → Option Addr} {cpa : Nat → Nat} {L : Nat → List T} {lo : Nat} {tvL tvP : Value} {d : Bool} {nL : Nat} {BL : Nat → List T} {nP : Nat} {BP : Nat → Nat → List T} {LS PS : List Value} (h : Pv w B X w7 p aa n ca ada cpa L lo tvL tvP d nL BL nP BP LS PS) {ya : Option Addr} {yc : Nat} {r : List T} (hr : RLo (NB (YP B X) tvL tvP) w7 ya yc r) {g1 cap1 : Nat} {w9 : World}
    (hgrow : (w7.alloc (.cells #[.slice ya r.length yc] 35)).grownBy w9 tvL.ownBlock) (hown : w9.ownsRow lo 35 1 (.slice (some ⟨g1, 0, none⟩) (nL + 1) cap1) (nL + 1) (LS ++ [.slice ya r.length yc])) (hat : tvL.ownBlock = some g1 ∨ g1 = (w7.alloc (.cells #[.slice ya r.length yc] 35)).heap.size) :
    (Own3 w9 X tvL tvP (.bool d) ∧ ∃ v0 v1 v2, Own3 w9 w.heap.size v0 v1 v2) ∧ Pv w B X (w9.setCell ⟨X, 0, none⟩ (.slice (some ⟨g1, 0, none⟩) (nL + 1) cap1)) p aa n ca ada cpa L lo (.slice (some ⟨g1, 0, none⟩) (nL + 1) cap1) tvP d (nL + 1) (updL BL nL r) nP BP (LS ++ [.slice ya r.length yc]) PS := by
  have b1 := bel_one w7 (.cells #[.slice ya r.length yc] 35)
  have f9 : Fr (fun k => tvL.ownBlock = some k) w7 w9 := ((Fr.refl (fun k => tvL.ownBlock = some k) w7).next b1).grown hgrow (fun k e _ => e)
  have hXl := h.box.lt
  have hBl := h.rdr.lt
  have hb := h.hB
  have hx := h.hX
  have hlx := h.hlo
  have k9 := h.bas.appL (fun b q => by rcases q with q | q <;> omega) hr hgrow hown hat
  have nY : ∀ k, tvL.ownBlock = some k → B < k ∧ k ≠ X := fun k e => by
    have := (h.bas.nL k e).2
    refine ⟨?_, fun q => this (.inr q)⟩
    by_cases q : k ≤ B
    · exact absurd (.inl q) this
    · omega
  have x9 : Own3 w9 X tvL tvP (.bool d) := h.box.fr f9 (fun e => (nY X e).2 rfl)
  have fs : Fr (fun k => k = X) w9 (w9.setCell ⟨X, 0, none⟩ (.slice (some ⟨g1, 0, none⟩) (nL + 1) cap1)) := (Fr.refl (fun k => k = X) w9).set (fun _ => rfl)
  refine ⟨⟨x9, by obtain ⟨v0, v1, v2, k⟩ := h.res; exact ⟨v0, v1, v2, k.fr f9 (fun e => by have := nY _ e; omega)⟩⟩, {
    bel := Fr.below (Fr.below h.bel f9 (fun k e => by have := nY k e; omega) (Nat.le_refl _)) fs (fun k e => by omega) (Nat.le_refl _)
    rdr := ((h.rdr.alloc _).grown hgrow (fun k e => (nY k e).1)).set hx
    lst := (h.lst.fr f9 (fun b hn e => by have := (h.bas.rL.lt b e).1; have := hn.2; omega)).fr fs (fun b hn e => by have := hn.2; omega)
    bas := k9.fr fs (fun b e => .inr e)
    box := x9.set0 _
    res := by obtain ⟨v0, v1, v2, k⟩ := h.res; exact ⟨v0, v1, v2, (k.fr f9 (fun e => by have := nY _ e; omega)).fr fs (by omega)⟩
    hB := h.hB
    hX := h.hX
    hlo := h.hlo }⟩
/-- the answer is laid into its box. -/
theorem Pv.fin {w u u' : World} {B X p : Nat} {aa : Option Addr} {n ca : Nat} {ada : Nat → Option Addr} {cpa : Nat → Nat} {L : Nat → List T} {lo : Nat} {tvL tvP : Value} {d : Bool} {nL : Nat} {BL : Nat → List T} {nP : Nat} {BP : Nat → Nat → List T} {LS PS : List Value} (h : Pv w B X u p aa n ca ada cpa L lo tvL tvP d nL BL nP BP LS PS) (h13 : nL ≤ 13) (h12 : nP ≤ 12)
    {a2 : Option Addr} {n2 c2 : Nat} {ad2 : Nat → Option Addr} {cp2 : Nat → Nat} {L2 : Nat → List T} (h2 : RSo (fun b => B + 1 ≤ b) u a2 n2 c2 ad2 cp2 L2) (hn5 : n2 ≤ 5) (hf : Fr (fun k => k = w.heap.size) u u') : PvD w (.returned (.tuple #[.agg #[tvL, tvP, .bool d], .slice a2 n2 c2])) u' := by
  have hb := h.bas.fr hf (fun b e => Or.inl (by have := h.hB; omega))
  obtain ⟨la, lc, ad, cp, rfl, hrl⟩ := hb.readL (by omega)
  obtain ⟨pa, pc, A, C, AD, CP, rfl, hrp⟩ := hb.readP (by omega)
  exact ⟨la, nL, lc, ad, cp, BL, pa, nP, pc, n, A, C, AD, CP, BP, d, a2, n2, c2, ad2, cp2, L2, rfl, hrl, hrp, (h2.fr hf (fun b hn e => by have := h.hB; omega)).1, h13, h12, hn5, Fr.below h.bel hf (fun k e => by omega) (Nat.le_refl _)⟩
theorem fr_three {w u : World} {v0 v1 v2 : Value} : Fr (fun k => k = w.heap.size) u (((u.setCell ⟨w.heap.size, 0, none⟩ v0).setCell ⟨w.heap.size, 1, none⟩ v1).setCell ⟨w.heap.size, 2, none⟩ v2) :=
  (((Fr.refl (fun k => k = w.heap.size) u).set (fun _ => rfl)).set (fun _ => rfl)).set (fun _ => rfl)
set_option maxRecDepth 100000 in
set_option maxHeartbeats 8000000 in
theorem drawGrbProves (w : World) (a : Option Addr) (len cap : Nat) (h : Src w a len cap) :
    Calls Tryz.prog 24 #[.slice a len cap] w (PvD w) := by
  have bo := bel_one w (.cells #[.slice none 0 0, .slice none 0 0, .bool false] 28)
  have HR0 := Hid.mk' (Own3.box w 28 (.slice none 0 0) (.slice none 0 0) (.bool false))
  have hO := open_any (w.alloc (.cells #[.slice none 0 0, .slice none 0 0, .bool false] 28)) a len cap (h.below bo)
  have hsz : (w.alloc (.cells #[.slice none 0 0, .slice none 0 0, .bool false] 28)).heap.size = w.heap.size + 1 := by simp
  have HB0 := Hid.mk' bo
  have HOP := Hid.mk' hO
  have HSZ := Hid.mk' hsz
  clear bo h hO hsz
  go_enter Tryz.func24, Tryz.ntmps24
  go_wp2_with fail
  refine HOP.out.mono ?_
  rw [HSZ.out]
  obtain ⟨B, hBe⟩ : ∃ B, B = w.heap.size + 1 := ⟨_, rfl⟩
  rw [← hBe]
  rintro e w1 ⟨rfl, hR1, b1⟩
  have hwB : w.heap.size < B := by omega
  have HB1 : Hid (Below w.heap.size w w1) := Hid.mk' (bel_next HB0.out (by first | exact b1 | (rw [HSZ.out, ← hBe]; exact b1)))
  have HR1 := Hid.mk' (HR0.out.fr (P := fun _ => False) ⟨b1.os, b1.tape, b1.output, by first | exact b1.size | (rw [HSZ.out, ← hBe]; exact b1.size), fun k hk _ => b1.block k (by first | exact hk | (rw [HSZ.out] at hk; omega))⟩ (fun q => q))
  have HRD := Hid.mk' hR1
  have hBw1 : B < w1.heap.size := hR1.lt
  clear hR1 b1 HB0 HR0 HOP HSZ hBe
  go_wp2_with fail
  refine (pick_any _ B _ 3 HRD.out (by omega) (by omega) (by omega)).mono ?_
  rintro e w2 ⟨x, rfl, hx0, hx3, hp2⟩
  have s2 := hp2.beside
  have HRD2 := Hid.mk' (hp2.rdr HRD.out)
  have HR2 := Hid.mk' (HR1.out.fr (fr_beside s2) (by omega))
  have HB2 := Hid.mk' (s2.below HB1.out (Nat.le_of_lt hwB) HB1.out.size)
  have hBw2 : B < w2.heap.size := Nat.lt_of_lt_of_le hBw1 s2.size
  have hwx : IntKind.i64.wrap (1 + x) = 1 + x := (by rw [IntKind.wrap_i64]; omega)
  clear hp2 s2 HRD HR1 HB1
  go_wp2_with fail
  refine (list_any w2 B _ 2 999 HRD2.out (by omega) (by omega) (by omega) (by omega) (by omega)).mono ?_
  rintro e w3 ⟨v, LS0, q3, rfl, ho, hlen, hE, hq3, hR3, s3⟩
  obtain ⟨aa, ca, ada, cpa, L, rfl, hra⟩ := rso_lo (b0 := B + 1) ho hE (by omega) (by omega) (by omega)
  have HRD3 := Hid.mk' hR3
  have HR3 := Hid.mk' (HR2.out.fr (fr_beside s3) (by omega))
  have HB3 := Hid.mk' (s3.below HB2.out (Nat.le_of_lt hwB) HB2.out.size)
  have hBw3 : B < w3.heap.size := Nat.lt_of_lt_of_le hBw2 s3.size
  have HLS := Hid.mk' hra
  obtain ⟨n, hn⟩ : ∃ n, LS0.length = n := ⟨_, rfl⟩
  rw [hn] at HLS hlen ⊢
  clear hR3 s3 ho hE hra HRD2 HR2 HB2 hn
  go_wp2_with fail
  refine (grbMakeS w3 (1 + x) aa n ca ada cpa L HLS.out.1 60).mono ?_
  have hm12 := grbMake_m (o := 1 + x) (n := n) (L := L) (fuel := 60)
  obtain ⟨Y, d, hX⟩ : ∃ X d, grbMake (1 + x) n L 60 = (X, d) := ⟨_, _, rfl⟩
  rw [hX] at hm12 ⊢
  rintro e w4 ⟨tvL, tvP, LS, PS, rfl, hb4, hk4⟩
  obtain ⟨m, BL, BP⟩ := Y
  have hm12' : m ≤ 12 := hm12
  have hk4' : BsW (fun b => b < w3.heap.size) w4 w3.heap.size tvL tvP n m BL m BP LS PS := hk4
  have HK4 := Hid.mk' hk4'
  obtain ⟨la, lc, lad, lcp, rfl, _⟩ := hk4'.readL (by omega)
  obtain ⟨pa, pc, pA, pC, pAD, pCP, rfl, _⟩ := hk4'.readP (by omega)
  have hs4 := hb4.size
  have bx := bel_one w4 (.cells #[.slice la m lc, .slice pa m pc, .bool d] 28)
  have HX6 := Hid.mk' (Own3.box w4 28 (.slice la m lc) (.slice pa m pc) (.bool d))
  have HPV : Hid (Pv w B w4.heap.size (w4.alloc (.cells #[.slice la m lc, .slice pa m pc, .bool d] 28)) q3 aa n ca ada cpa L w3.heap.size (.slice la m lc) (.slice pa m pc) d m BL m BP LS PS) := Hid.mk' {
    bel := bel_next (bel_next HB3.out hb4) bx
    rdr := (HRD3.out.grown (below_grown hb4 none) (fun _ e => by cases e)).alloc _
    lst := ((HLS.out.mono (N' := fun b => B + 1 ≤ b ∧ b < w3.heap.size) (fun b hb hn => ⟨hn, hb⟩)).below hb4).below bx
    bas := (HK4.out.yet (Y' := YP B w4.heap.size) (fun b hb hy => by rcases hy with q | q <;> omega)).below bx
    box := HX6.out
    res := ⟨_, _, _, (HR3.out.below hb4).below bx⟩
    hB := hwB
    hX := by omega
    hlo := hs4 }
  obtain ⟨X, hXe⟩ : ∃ X, w4.heap.size = X := ⟨_, rfl⟩
  have hwX : w.heap.size ≠ X := by omega
  have hXw : X ≠ w.heap.size := by omega
  have hBX : X ≠ B := by omega
  have hBX' : B < X := by omega
  have hq3' : q3 ≤ 1010 := by omega
  clear HK4 hk4 hk4' hb4 HLS HRD3 HR3 HB3 bx HX6 hX hm12 hwx
  go_wp2_with fail
  rw [hXe] at HPV
  (try rw [hXe])
  generalize w4.alloc (.cells #[.slice la m lc, .slice pa m pc, .bool d] 28) = w5 at HPV ⊢
  clear hXe hs4
  refine (pick_any _ B _ 6 HPV.out.rdr (by omega) (by omega) (by omega)).mono ?_
  rintro e w6 ⟨y, rfl, hy0, hy6, hp6⟩
  have HP6 := Hid.mk' (HPV.out.fr hp6.beside (hp6.rdr HPV.out.rdr))
  clear hp6 HPV
  obtain ⟨⟨c0, c1, c2⟩, cz⟩ := HP6.out.box
  obtain ⟨v0, v1, v2, ⟨d0, d1, d2⟩, dz⟩ := HP6.out.res
  by_cases y0 : y = 0
  · subst y0
    have hS : C3k X (.slice la m lc) (.slice pa m pc) (.bool d) w6.drew := ⟨c0, c1, c2⟩
    have HPd := Hid.mk' (HP6.out.fr (Beside.refl B w6).drew (HP6.out.rdr.drewN 1))
    have HLI := Hid.mk' (list_any5 w6.drew B _ 2 9 HPd.out.rdr (by omega) (by omega) (by omega) (by omega) (by omega))
    have HSS := Hid.mk' hS
    clear HP6 c0 c1 c2 cz d0 d1 d2 dz hS
    go_wp2_with fail
    go_region_held3 (fun u => u.cell? ⟨X, 0, none⟩ = some (.slice la m lc) ∧ u.cell? ⟨X, 1, none⟩ = some (.slice pa m pc) ∧ u.cell? ⟨X, 2, none⟩ = some (.bool d)) (first | with_reducible exact HST.out | with_reducible exact HSB.out | with_reducible exact HSS.out) ((go_at_call 37; refine HLI.out.mono ?_; rintro e w7 ⟨v, LS7, q7, rfl, ho, hlen7, hE, hq7, hR7, s7⟩; obtain ⟨a2, c2', ad2, cp2, L2, rfl, hra⟩ := rso_lo (b0 := B + 1) ho hE (by omega) (by have := HPd.out.rdr.lt; omega) (by have := HPd.out.rdr.lt; omega); have HP7 := Hid.mk' (HPd.out.fr s7 hR7); have HL2 := Hid.mk' hra; have HSB : Hid (C3k X (.slice la m lc) (.slice pa m pc) (.bool d) w7) := Hid.mk' HP7.out.box.1; have HST : Hid (C3k X (.slice la m lc) (.slice pa m pc) (.bool d) (((w7.setCell ⟨w.heap.size, 0, none⟩ (.slice la m lc)).setCell ⟨w.heap.size, 1, none⟩ (.slice pa m pc)).setCell ⟨w.heap.size, 2, none⟩ (.bool d))) := Hid.mk' (HP7.out.box.fr (fr_three (w := w)) hXw).1; obtain ⟨z0, z1, z2, ⟨d0, d1, d2⟩, dz⟩ := HP7.out.res; clear ho hE hra hR7 s7))
    go_wp2
    refine bodyPost_ret (v := .tuple #[.agg #[.slice la m lc, .slice pa m pc, .bool d], .slice a2 LS7.length c2']) (by simp [results, Tryz.results24, go_sem, *]) rfl ?_
    exact HP7.out.fin (by omega) hm12' HL2.out hlen7 fr_three
  by_cases y1 : y = 1
  · subst y1
    obtain ⟨i0, hi0, hz0, hz1, hz2⟩ := info_parts infoSL
    have hmax : m + 1 ≤ maxLen := by unfold maxLen; omega
    have HPd := Hid.mk' (HP6.out.fr (Beside.refl B w6).drew (HP6.out.rdr.drewN 1))
    have c0d : w6.drew.cell? ⟨X, 0, none⟩ = some (.slice la m lc) := c0
    have hXlt : X < w6.drew.heap.size := World.block_lt_of_cell? _ _ c0d
    have hBlt : B < w6.drew.heap.size := HPd.out.rdr.lt
    have hlo3 : w3.heap.size ≤ w6.drew.heap.size := Nat.le_trans HPd.out.hlo (Nat.le_of_lt hXlt)
    clear c0 c1 c2 cz d0 d1 d2 dz HP6
    go_wp2_with fail
    refine wp_region_held_drew (S := fun _ => True) (by kernel_rfl) (trivial) (fun hHeld => ?_)
    refine wpAnyH_take (i := 0) (v := ?_) rfl (by kernel_rfl) (by kernel_rfl) (by kernel_rfl) (fun _ _ _ h => h) (Or.inl ⟨by rfl, ?_⟩) (by assumption) ?_
    rotate_left
    · (intro w9 hSw; (try dsimp only at hSw); go_simp) <;> with_reducible rfl
    try simp only [Act.put, List.getElem_toArray, List.getElem_cons_succ, List.getElem_cons_zero, List.setIfInBounds_toArray, List.set_cons_zero, List.set_cons_succ]
    refine wpAnyH_take (i := 2) (v := ?_) rfl (by kernel_rfl) (by kernel_rfl) (by kernel_rfl) (fun _ _ _ h => h) (Or.inl ⟨by rfl, ?_⟩) (by assumption) ?_
    rotate_left
    · (intro w9 hSw; (try dsimp only at hSw); go_simp) <;> with_reducible rfl
    try simp only [Act.put, List.getElem_toArray, List.getElem_cons_succ, List.getElem_cons_zero, List.setIfInBounds_toArray, List.set_cons_zero, List.set_cons_succ]
    refine wpAnyH_ready (rs := [1, 3]) (by kernel_rfl) (by simp) ?_
    refine AllReadyH.cons rfl (fun K hK => ?_) ?_
    rotate_left
    refine AllReadyH.cons rfl (fun K hK => ?_) AllReadyH.nil
    go_simp
    go_wp2_with (go_at_call 66; refine (pol_any w6.drew B _ 2 HPd.out.rdr (by omega) (by omega) (by omega)).mono ?_; rintro e w7 ⟨v, LP, q7, rfl, ho, hlL, hck, hq7, hR7, s7⟩; have HOP := Hid.mk' ho; clear ho; (obtain ⟨ya, yc, rfl, hout⟩ := out_of_owns HOP.out (by omega)); have HP7 := Hid.mk' (HPd.out.fr s7 hR7); have HY : Hid (RLo (NB (YP B X) (.slice la m lc) (.slice pa m pc)) w7 ya yc LP) := Hid.mk' ⟨hout.1, hout.2.2.imp id (fun ⟨g, off, e, hle⟩ b off' e2 => NB.far (m := w6.drew.heap.size) (fun k e => (HPd.out.bas.rL.lt k e).2) (fun k e => (HPd.out.bas.rP.lt k e).2) (fun k e => by rcases e with e | e <;> omega) (by rw [e] at e2; cases e2; exact hle))⟩; have c7 : w7.cell? ⟨X, 0, none⟩ = some (.slice la m lc) := HP7.out.box.1.1; have c8 : (w7.alloc (.cells #[.slice ya LP.length yc] 35)).cell? ⟨X, 0, none⟩ = some (.slice la m lc) := ((bel_one w7 (.cells #[.slice ya LP.length yc] 35)).cell (p := ⟨X, 0, none⟩) HP7.out.box.lt).trans c7; have hl7 : w6.drew.heap.size ≤ w7.heap.size := s7.size; clear hck hR7 s7 hout)
    refine hK.out _ _ (by trivial) (fun hHeld2 => ?_)
    clear hK K hHeld
    have hHeld := hHeld2
    clear hHeld2
    try simp only [Act.put, List.getElem_toArray, List.getElem_cons_succ, List.getElem_cons_zero, List.setIfInBounds_toArray, List.set_cons_zero, List.set_cons_succ]
    refine wpAnyH_ready (rs := [1, 4]) (by kernel_rfl) (by simp) ?_
    refine AllReadyH.cons rfl (fun K hK => ?_) ?_
    rotate_left
    refine AllReadyH.cons rfl (fun K hK => ?_) AllReadyH.nil
    go_simp
    refine hK.out _ _ (by trivial) (fun hHeld2 => ?_)
    clear hK K hHeld
    have hHeld := hHeld2
    clear hHeld2
    try simp only [Act.put, List.getElem_toArray, List.getElem_cons_succ, List.getElem_cons_zero, List.setIfInBounds_toArray, List.set_cons_zero, List.set_cons_succ]
    refine wpAnyH_ready (rs := [1]) (by kernel_rfl) (by simp) ?_
    refine AllReadyH.cons rfl (fun K hK => ?_) AllReadyH.nil
    go_simp
    refine hK.out _ _ (by trivial) (fun hHeld2 => ?_)
    clear hK K hHeld
    have hHeld := hHeld2
    clear hHeld2
    try simp only [Act.put, List.getElem_toArray, List.getElem_cons_succ, List.getElem_cons_zero, List.setIfInBounds_toArray, List.set_cons_zero, List.set_cons_succ]
    refine wpAnyH_ready (rs := [5]) (by kernel_rfl) (by simp) ?_
    refine AllReadyH.cons rfl (fun K hK => ?_) AllReadyH.nil
    (refine step_append_lies _ (by rfl) (.tmp 28) (.tmp 31) 23 (by rfl) w3.heap.size 35 i0 _ 1 24 Tryz.underlying23 hi0 hz0 hz1 hz2 rfl (by omega) _ m LS (by rfl) (HP7.out.bas.rL.alloc _) ⟨w7.heap.size, 0, none⟩ 1 1 [.slice ya LP.length yc] (by rfl) (by rfl) (World.news_of_block (heap_alloc_new w7 _)) (one_sl _ _ _) (by omega) hmax (by omega) (by simp; omega) _ (by rfl) ?_; intro g1 cap1 w9 hown2 hgrow2 hat2 hlt2; have HP9 := Hid.mk' (HP7.out.app HY.out hgrow2 hown2 hat2); obtain ⟨⟨e0, e1, e2⟩, ez⟩ := HP9.out.1.1; obtain ⟨v0, v1, v2, ⟨d0, d1, d2⟩, dz⟩ := HP9.out.1.2; clear hown2 hgrow2 hat2 hlt2 c7 c8 c0d)
    refine hK.out _ _ (by trivial) (fun hHeld2 => ?_)
    clear hK K hHeld
    have hHeld := hHeld2
    clear hHeld2
    try simp only [Act.put, List.getElem_toArray, List.getElem_cons_succ, List.getElem_cons_zero, List.setIfInBounds_toArray, List.set_cons_zero, List.set_cons_succ]
    refine wpAnyH_take (i := 6) (v := ?_) rfl (by kernel_rfl) (by kernel_rfl) (by kernel_rfl) (fun _ _ _ h => h) (Or.inl ⟨by rfl, ?_⟩) (by assumption) ?_
    rotate_left
    · (intro w9 hSw; (try dsimp only at hSw); go_simp) <;> with_reducible rfl
    try simp only [Act.put, List.getElem_toArray, List.getElem_cons_succ, List.getElem_cons_zero, List.setIfInBounds_toArray, List.set_cons_zero, List.set_cons_succ]
    refine wpAnyH_ready (rs := [7]) (by kernel_rfl) (by simp) ?_
    refine AllReadyH.cons rfl (fun K hK => ?_) AllReadyH.nil
    go_simp
    refine hK.out _ _ (by trivial) (fun hHeld2 => ?_)
    clear hK K hHeld
    have hHeld := hHeld2
    clear hHeld2
    try simp only [Act.put, List.getElem_toArray, List.getElem_cons_succ, List.getElem_cons_zero, List.setIfInBounds_toArray, List.set_cons_zero, List.set_cons_succ]
    refine wpAnyH_done (by kernel_rfl) ?_ _
    rotate_left
    go_simp
    refine hK.out _ _ (by trivial) (fun hHeld2 => ?_)
    clear hK K hHeld
    have hHeld := hHeld2
    clear hHeld2
    try simp only [Act.put, List.getElem_toArray, List.getElem_cons_succ, List.getElem_cons_zero, List.setIfInBounds_toArray, List.set_cons_zero, List.set_cons_succ]
    refine wpAnyH_ready (rs := [3]) (by kernel_rfl) (by simp) ?_
    refine AllReadyH.cons rfl (fun K hK => ?_) AllReadyH.nil
    go_simp
    go_wp2_with (go_at_call 66; refine (pol_any w6.drew B _ 2 HPd.out.rdr (by omega) (by omega) (by omega)).mono ?_; rintro e w7 ⟨v, LP, q7, rfl, ho, hlL, hck, hq7, hR7, s7⟩; have HOP := Hid.mk' ho; clear ho; (obtain ⟨ya, yc, rfl, hout⟩ := out_of_owns HOP.out (by omega)); have HP7 := Hid.mk' (HPd.out.fr s7 hR7); have HY : Hid (RLo (NB (YP B X) (.slice la m lc) (.slice pa m pc)) w7 ya yc LP) := Hid.mk' ⟨hout.1, hout.2.2.imp id (fun ⟨g, off, e, hle⟩ b off' e2 => NB.far (m := w6.drew.heap.size) (fun k e => (HPd.out.bas.rL.lt k e).2) (fun k e => (HPd.out.bas.rP.lt k e).2) (fun k e => by rcases e with e | e <;> omega) (by rw [e] at e2; cases e2; exact hle))⟩; have c7 : w7.cell? ⟨X, 0, none⟩ = some (.slice la m lc) := HP7.out.box.1.1; have c8 : (w7.alloc (.cells #[.slice ya LP.length yc] 35)).cell? ⟨X, 0, none⟩ = some (.slice la m lc) := ((bel_one w7 (.cells #[.slice ya LP.length yc] 35)).cell (p := ⟨X, 0, none⟩) HP7.out.box.lt).trans c7; have hl7 : w6.drew.heap.size ≤ w7.heap.size := s7.size; clear hck hR7 s7 hout)
    refine hK.out _ _ (by trivial) (fun hHeld2 => ?_)
    clear hK K hHeld
    have hHeld := hHeld2
    clear hHeld2
    try simp only [Act.put, List.getElem_toArray, List.getElem_cons_succ, List.getElem_cons_zero, List.setIfInBounds_toArray, List.set_cons_zero, List.set_cons_succ]
    refine wpAnyH_ready (rs := [4]) (by kernel_rfl) (by simp) ?_
    refine AllReadyH.cons rfl (fun K hK => ?_) AllReadyH.nil
    go_simp
    refine hK.out _ _ (by trivial) (fun hHeld2 => ?_)
    clear hK K hHeld
    have hHeld := hHeld2
    clear hHeld2
    try simp only [Act.put, List.getElem_toArray, List.getElem_cons_succ, List.getElem_cons_zero, List.setIfInBounds_toArray, List.set_cons_zero, List.set_cons_succ]
    refine wpAnyH_ready (rs := [5]) (by kernel_rfl) (by simp) ?_
    refine AllReadyH.cons rfl (fun K hK => ?_) AllReadyH.nil
    (refine step_append_lies _ (by rfl) (.tmp 28) (.tmp 31) 23 (by rfl) w3.heap.size 35 i0 _ 1 24 Tryz.underlying23 hi0 hz0 hz1 hz2 rfl (by omega) _ m LS (by rfl) (HP7.out.bas.rL.alloc _) ⟨w7.heap.size, 0, none⟩ 1 1 [.slice ya LP.length yc] (by rfl) (by rfl) (World.news_of_block (heap_alloc_new w7 _)) (one_sl _ _ _) (by omega) hmax (by omega) (by simp; omega) _ (by rfl) ?_; intro g1 cap1 w9 hown2 hgrow2 hat2 hlt2; have HP9 := Hid.mk' (HP7.out.app HY.out hgrow2 hown2 hat2); obtain ⟨⟨e0, e1, e2⟩, ez⟩ := HP9.out.1.1; obtain ⟨v0, v1, v2, ⟨d0, d1, d2⟩, dz⟩ := HP9.out.1.2; clear hown2 hgrow2 hat2 hlt2 c7 c8 c0d)
    refine hK.out _ _ (by trivial) (fun hHeld2 => ?_)
    clear hK K hHeld
    have hHeld := hHeld2
    clear hHeld2
    try simp only [Act.put, List.getElem_toArray, List.getElem_cons_succ, List.getElem_cons_zero, List.setIfInBounds_toArray, List.set_cons_zero, List.set_cons_succ]
    refine wpAnyH_take (i := 6) (v := ?_) rfl (by kernel_rfl) (by kernel_rfl) (by kernel_rfl) (fun _ _ _ h => h) (Or.inl ⟨by rfl, ?_⟩) (by assumption) ?_
    rotate_left
    · (intro w9 hSw; (try dsimp only at hSw); go_simp) <;> with_reducible rfl
    try simp only [Act.put, List.getElem_toArray, List.getElem_cons_succ, List.getElem_cons_zero, List.setIfInBounds_toArray, List.set_cons_zero, List.set_cons_succ]
    refine wpAnyH_ready (rs := [7]) (by kernel_rfl) (by simp) ?_
    refine AllReadyH.cons rfl (fun K hK => ?_) AllReadyH.nil
    go_simp
    refine hK.out _ _ (by trivial) (fun hHeld2 => ?_)
    clear hK K hHeld
    have hHeld := hHeld2
    clear hHeld2
    try simp only [Act.put, List.getElem_toArray, List.getElem_cons_succ, List.getElem_cons_zero, List.setIfInBounds_toArray, List.set_cons_zero, List.set_cons_succ]
    refine wpAnyH_done (by kernel_rfl) ?_ _
    rotate_left
    go_simp
    refine hK.out _ _ (by trivial) (fun hHeld2 => ?_)
    clear hK K hHeld
    have hHeld := hHeld2
    clear hHeld2
    try simp only [Act.put, List.getElem_toArray, List.getElem_cons_succ, List.getElem_cons_zero, List.setIfInBounds_toArray, List.set_cons_zero, List.set_cons_succ]
    refine wpAnyH_ready (rs := [4]) (by kernel_rfl) (by simp) ?_
    refine AllReadyH.cons rfl (fun K hK => ?_) AllReadyH.nil
    go_simp
    refine hK.out _ _ (by trivial) (fun hHeld2 => ?_)
    clear hK K hHeld
    have hHeld := hHeld2
    clear hHeld2
    try simp only [Act.put, List.getElem_toArray, List.getElem_cons_succ, List.getElem_cons_zero, List.setIfInBounds_toArray, List.set_cons_zero, List.set_cons_succ]
    refine wpAnyH_ready (rs := [5]) (by kernel_rfl) (by simp) ?_
    refine AllReadyH.cons rfl (fun K hK => ?_) AllReadyH.nil
    (refine step_append_lies _ (by rfl) (.tmp 28) (.tmp 31) 23 (by rfl) w3.heap.size 35 i0 _ 1 24 Tryz.underlying23 hi0 hz0 hz1 hz2 rfl (by omega) _ m LS (by rfl) (HP7.out.bas.rL.alloc _) ⟨w7.heap.size, 0, none⟩ 1 1 [.slice ya LP.length yc] (by rfl) (by rfl) (World.news_of_block (heap_alloc_new w7 _)) (one_sl _ _ _) (by omega) hmax (by omega) (by simp; omega) _ (by rfl) ?_; intro g1 cap1 w9 hown2 hgrow2 hat2 hlt2; have HP9 := Hid.mk' (HP7.out.app HY.out hgrow2 hown2 hat2); obtain ⟨⟨e0, e1, e2⟩, ez⟩ := HP9.out.1.1; obtain ⟨v0, v1, v2, ⟨d0, d1, d2⟩, dz⟩ := HP9.out.1.2; clear hown2 hgrow2 hat2 hlt2 c7 c8 c0d)
    refine hK.out _ _ (by trivial) (fun hHeld2 => ?_)
    clear hK K hHeld
    have hHeld := hHeld2
    clear hHeld2
    try simp only [Act.put, List.getElem_toArray, List.getElem_cons_succ, List.getElem_cons_zero, List.setIfInBounds_toArray, List.set_cons_zero, List.set_cons_succ]
    refine wpAnyH_take (i := 6) (v := ?_) rfl (by kernel_rfl) (by kernel_rfl) (by kernel_rfl) (fun _ _ _ h => h) (Or.inl ⟨by rfl, ?_⟩) (by assumption) ?_
    rotate_left
    · (intro w9 hSw; (try dsimp only at hSw); go_simp) <;> with_reducible rfl
    try simp only [Act.put, List.getElem_toArray, List.getElem_cons_succ, List.getElem_cons_zero, List.setIfInBounds_toArray, List.set_cons_zero, List.set_cons_succ]
    refine wpAnyH_ready (rs := [7]) (by kernel_rfl) (by simp) ?_
    refine AllReadyH.cons rfl (fun K hK => ?_) AllReadyH.nil
    go_simp
    refine hK.out _ _ (by trivial) (fun hHeld2 => ?_)
    clear hK K hHeld
    have hHeld := hHeld2
    clear hHeld2
    try simp only [Act.put, List.getElem_toArray, List.getElem_cons_succ, List.getElem_cons_zero, List.setIfInBounds_toArray, List.set_cons_zero, List.set_cons_succ]
    refine wpAnyH_done (by kernel_rfl) ?_ _
    rotate_left
    all_goals (
      go_wp2
      refine bodyPost_ret (v := .tuple #[.agg #[.slice (some ⟨g1, 0, none⟩) (m + 1) cap1, .slice pa m pc, .bool d], .slice aa n ca]) (by simp [results, Tryz.results24, go_sem, *]) rfl ?_
      exact HP9.out.2.fin (by omega) hm12' (HP9.out.2.lst.mono (fun b _ q => q.1)) hlen fr_three)
  by_cases y2 : y = 2
  · subst y2
    have e0 : ((2 : Int) == 0) = false := rfl
    by_cases hm0 : m = 0
    · have hmz : ¬ (0 : Int) < (m : Int) := by omega
      go_wp2
      refine bodyPost_ret (v := .tuple #[.agg #[.slice la m lc, .slice pa m pc, .bool d], .slice aa n ca]) (by simp [results, Tryz.results24, go_sem, *]) rfl ?_
      exact HP6.out.fin (by omega) hm12' (HP6.out.lst.mono (fun b _ q => q.1)) hlen fr_three
    · have hmz : (0 : Int) < (m : Int) := by omega
      obtain ⟨pb, pof, rfl, hplo, hprow⟩ : ∃ pb, ∃ cur : Array Value, pa = some ⟨pb, 0, none⟩ ∧ (∃ v0, w6.cell? ⟨pb, 0, none⟩ = some v0) ∧ w6.heap[pb]? = some (.cells cur 23 (0, 0)) := by
        rcases HP6.out.bas.rP.2 with ⟨_, q⟩ | ⟨g', cap', cur, hv, hlo, hg, hnc, hmx, hs, ht⟩
        · omega
        · cases hv
          refine ⟨g', cur, rfl, ⟨cur[0]'(by omega), ?_⟩, hg⟩
          rw [cell_of_row w6 g' 0 _ _ _ hg, Array.getElem?_eq_getElem]
      have hpb : pb < w6.heap.size := (Array.getElem?_eq_some_iff.1 hprow).1
      have hpY : ¬ YP B X pb := HP6.out.bas.nP pb rfl
      have hpX : pb ≠ X := fun e => hpY (.inr e)
      have hpX' : X ≠ pb := fun e => hpX e.symm
      have HPd := Hid.mk' (HP6.out.fr (Beside.refl B w6).drew (HP6.out.rdr.drewN 1))
      have HRW := Hid.mk' (l9RowS w6.drew n 1 (by omega))
      have HS0 : Hid (w6.drew.cell? ⟨X, 1, none⟩ = some (.slice (some ⟨pb, 0, none⟩) m pc)) := Hid.mk' c1
      have HPR : Hid (w6.drew.heap[pb]? = some (.cells pof 23 (0, 0))) := Hid.mk' hprow
      have HPC : Hid (∃ v0, w6.drew.cell? ⟨pb, 0, none⟩ = some v0) := Hid.mk' hplo
      have hpbd : pb < w6.drew.heap.size := hpb
      have hXlt : X < w6.drew.heap.size := World.block_lt_of_cell? _ _ HS0.out
      have hBlt : B < w6.drew.heap.size := HPd.out.rdr.lt
      go_wp2_with fail
      clear c0 c1 c2 cz d0 d1 d2 dz hprow hplo hpb
      go_region_held3 (fun u => u.cell? ⟨X, 1, none⟩ = some (.slice (some ⟨pb, 0, none⟩) m pc)) (first | with_reducible exact HST.out | with_reducible exact HSB.out | with_reducible exact HS0.out) ((go_at_call 44; refine HRW.out.mono ?_; rintro e w7 ⟨ra, rc, rad, rcp, rRb, rB, rfl, hb7, ho7⟩; have HB7 := Hid.mk' hb7; have HO7 := Hid.mk' ho7; have HSB : Hid (w7.cell? ⟨X, 1, none⟩ = some (.slice (some ⟨pb, 0, none⟩) m pc)) := Hid.mk' ((hb7.cell (p := ⟨X, 1, none⟩) hXlt).trans HS0.out); have HST : Hid ((w7.setCell ⟨pb, 0, none⟩ (.slice ra n rc)).cell? ⟨X, 1, none⟩ = some (.slice (some ⟨pb, 0, none⟩) m pc)) := Hid.mk' ((sc_other (fun e => hpX (congrArg Addr.block e))).trans HSB.out); obtain ⟨pv0, p0⟩ : ∃ v0, w7.cell? ⟨pb, 0, none⟩ = some v0 := HPC.out.imp fun v h => (hb7.cell (p := ⟨pb, 0, none⟩) hpbd).trans h; have pz : w7.frozen? ⟨pb, 0, none⟩ = false := (by have e7 := (hb7.block _ hpbd).trans HPR.out; simp [World.frozen?, e7]); clear hb7 ho7))
      have HP7 := Hid.mk' (HPd.out.fr (u' := w7) (q := q3 + 1) ⟨HB7.out.os, HB7.out.tape, HB7.out.output, HB7.out.size, fun k hk _ => HB7.out.block k hk⟩ (HPd.out.rdr.grown (below_grown HB7.out none) (fun _ e => by cases e)))
      have HP8 := Hid.mk' (HP7.out.setP (by omega) ((rso_outs HO7.out (Nat.le_refl _)).mono (fun b _ q => NB.far (m := w6.drew.heap.size) (fun k e => (HPd.out.bas.rL.lt k e).2) (fun k e => (HPd.out.bas.rP.lt k e).2) (fun k e => by rcases e with e | e <;> omega) q.1)))
      clear HP7 HB7 HO7
      obtain ⟨⟨c0, c1, c2⟩, cz⟩ := HP8.out.box
      obtain ⟨v0, v1, v2, ⟨d0, d1, d2⟩, dz⟩ := HP8.out.res
      generalize w7.setCell ⟨pb, 0, none⟩ (.slice ra n rc) = w8 at *
      go_wp2
      refine bodyPost_ret (v := .tuple #[.agg #[.slice la m lc, .slice (some ⟨pb, 0, none⟩) m pc, .bool d], .slice aa n ca]) (by simp [results, Tryz.results24, go_sem, *]) rfl ?_
      exact HP8.out.fin (by omega) hm12' (HP8.out.lst.mono (fun b _ q => q.1)) hlen fr_three
  · have e0 : (y == 0) = false := beq_eq_false_iff_ne.2 y0
    have e1 : (y == 1) = false := beq_eq_false_iff_ne.2 y1
    have e2 : (y == 2) = false := beq_eq_false_iff_ne.2 y2
    go_wp2
    refine bodyPost_ret (v := .tuple #[.agg #[.slice la m lc, .slice pa m pc, .bool d], .slice aa n ca]) (by simp [results, Tryz.results24, go_sem, *]) rfl ?_
    exact HP6.out.fin (by omega) hm12' (HP6.out.lst.mono (fun b _ q => q.1)) hlen fr_three
end Go.Proofs.YtmlaedpamobmhaaGreat
namespace Go.Proofs.YtmlaedpamobmhaaGreat
open Go.RowKit
set_option linter.unusedVariables false
def oneQ : List T := [⟨1, ⟨0, 0, 0, 0⟩⟩]
theorem heOne_P (u : World) : Calls Tryz.prog 28 #[] u fun e u' => ∃ a c, e = .returned (.slice a 1 c) ∧ Below u.heap.size u u' ∧ RL u' a c oneQ := by
  go_enter Tryz.func28, Tryz.ntmps28
  go_wp2
  go_ret
  exact ⟨_, _, rfl, bel_one u _, one_RL u ⟨1, ⟨0, 0, 0, 0⟩⟩⟩
abbrev RdOne (w : World) (b : Nat) (a : Option Addr) (c : Nat) : Prop := RdS w (some ⟨b, 0, none⟩) 1 1 (fun _ => a) (fun _ => 1) (fun _ => c) (fun _ => lf oneQ)
abbrev RdOne3 (w : World) (b b' : Nat) (a : Option Addr) (c : Nat) : Prop := Rd3 w (some ⟨b, 0, none⟩) 1 1 (fun _ => some ⟨b', 0, none⟩) (fun _ => 1) (fun _ _ => a) (fun _ _ => c) (fun _ => 1) (fun _ _ => 1) (fun _ _ => lf oneQ)
theorem one_row {w : World} {a : Option Addr} {c : Nat} (h : RL w a c oneQ) : RdOne (w.alloc (.cells #[.slice a 1 c] 35)) w.heap.size a c :=
  ⟨Nat.le_refl _, by omega, .inr ⟨w.heap.size, 0, rfl, by simp, fun i hi => by
    obtain rfl : i = 0 := by omega
    rw [World.cell?_alloc_at _ _ _ _ rfl]; rfl⟩, fun i hi => h.below (bel_one w _)⟩
theorem one_row3 {w : World} {b : Nat} {a : Option Addr} {c : Nat} (h : RdOne w b a c) : RdOne3 (w.alloc (.cells #[.slice (some ⟨b, 0, none⟩) 1 1] 23)) w.heap.size b a c :=
  ⟨Nat.le_refl _, by omega, .inr ⟨w.heap.size, 0, rfl, by simp, fun i hi => by
    obtain rfl : i = 0 := by omega
    rw [World.cell?_alloc_at _ _ _ _ rfl]; rfl⟩, fun i hi => h.below (bel_one w _)⟩
theorem one_proves : grbProves 1 (fun _ => 1) (fun _ => lf oneQ) 1 (fun _ => 1) (fun _ _ => 1) (fun _ _ => lf oneQ) 1 (fun _ => 1) (fun _ => lf oneQ) = true := by
  decide +kernel
theorem gp_no1 {nb : Nat} {ln : Nat → Nat} {f : Nat → Nat → T} {np : Nat} {N : Nat → Nat} {L : Nat → Nat → Nat} {F : Nat → Nat → Nat → T} {n2 : Nat} {ln2 : Nat → Nat} {f2 : Nat → Nat → T} (h : lstOk nb ln f = false) : grbProves nb ln f np N L F n2 ln2 f2 = false := by unfold grbProves; rw [h]; rfl
theorem gp_no2 {nb : Nat} {ln : Nat → Nat} {f : Nat → Nat → T} {np : Nat} {N : Nat → Nat} {L : Nat → Nat → Nat} {F : Nat → Nat → Nat → T} {n2 : Nat} {ln2 : Nat → Nat} {f2 : Nat → Nat → T} (h : lstOk n2 ln2 f2 = false) : grbProves nb ln f np N L F n2 ln2 f2 = false := by unfold grbProves; rw [h]; simp
theorem gp_no3 {nb : Nat} {ln : Nat → Nat} {f : Nat → Nat → T} {np : Nat} {N : Nat → Nat} {L : Nat → Nat → Nat} {F : Nat → Nat → Nat → T} {n2 : Nat} {ln2 : Nat → Nat} {f2 : Nat → Nat → T} (h : np ≠ nb) : grbProves nb ln f np N L F n2 ln2 f2 = false := by unfold grbProves; simp [h]
theorem gp_yes {nb : Nat} {ln : Nat → Nat} {f : Nat → Nat → T} {N : Nat → Nat} {L : Nat → Nat → Nat} {F : Nat → Nat → Nat → T} {n2 : Nat} {ln2 : Nat → Nat} {f2 : Nat → Nat → T} (h1 : lstOk nb ln f = true) (h2 : lstOk n2 ln2 f2 = true) : grbProves nb ln f nb N L F n2 ln2 f2 = decide (∀ i, i < nb → gpAt ln f N L F n2 ln2 f2 i = true) := by unfold grbProves; rw [h1, h2]; simp
theorem all_next {i : Nat} {q : Nat → Bool} : decide (∀ j, j < i + 1 → q j = true) = (decide (∀ j, j < i → q j = true) && q i) := by
  cases h : q i
  · rw [Bool.and_false]
    refine decide_eq_false (fun k => ?_)
    rw [k i (Nat.lt_succ_self i)] at h
    cases h
  · rw [Bool.and_true]
    refine decide_eq_decide.2 ⟨fun k j hj => k j (by omega), fun k j hj => ?_⟩
    by_cases e : j = i
    · rw [e]; exact h
    · exact k j (by omega)
theorem all_less {i n : Nat} {q : Nat → Bool} (hi : i ≤ n) (h : decide (∀ j, j < i → q j = true) = false) : decide (∀ j, j < n → q j = true) = false :=
  decide_eq_false (fun k => (of_decide_eq_false h) (fun j hj => k j (by omega)))
set_option maxRecDepth 100000 in
set_option maxHeartbeats 8000000 in
theorem walk_FnGrbProves (w : World) (a0 : Option Addr) (len0 cap0 : Nat) (s0 : Src w a0 len0 cap0) :
    Calls Tryz.prog 7 #[.slice a0 len0 cap0] w fun e w' => e = .returned (.bool true) ∧ Below w.heap.size w w' := by
  by_cases c0 : (1048576 : Int) < (len0 : Int)
  · go_enter Tryz.func7, Tryz.ntmps7
    go_wp2
    go_ret
    exact ⟨rfl, Below.refl _ _⟩
  go_enter Tryz.func7, Tryz.ntmps7
  go_wp2_with fail
  refine (drawGrbProves w a0 len0 cap0 s0).mono ?_
  rintro e wd ⟨la, nb, lc, ad, cp, BL, pa, np, pc, g, A, C, AD, CP, BP, d, a2, n2, c2, ad2, cp2, L2, rfl, hL, hP, hG, hnb, hnp, hn2, hbd⟩
  have bx := bel_one wd (.cells #[.slice la nb lc, .slice pa np pc, .bool d] 28)
  have HO := Hid.mk' (Own3.box wd 28 (.slice la nb lc) (.slice pa np pc) (.bool d))
  have HL := Hid.mk' (hL.below bx)
  have HP := Hid.mk' (hP.below bx)
  have HG := Hid.mk' (hG.below bx)
  have Z := Hid.mk' (bel_next hbd bx)
  have hnbI : (nb : Int) ≤ 13 := by omega
  have hnpI : (np : Int) ≤ 12 := by omega
  obtain ⟨R, hR⟩ : ∃ R, grbProves nb (lN BL) (fN BL) np (fun _ => g) (fun i => lN (BP i)) (fun i => fN (BP i)) n2 (lN L2) (fN L2) = R := ⟨_, rfl⟩
  have HR := Hid.mk' hR
  have hRR : (R != R) = false := by simp
  have hRE : (R == R) = true := by simp
  clear hL hP hG hbd bx s0 hR
  obtain ⟨⟨c0', c1, c2'⟩, cz⟩ := HO.out
  go_wp2_with fail
  generalize (wd.alloc (.cells #[.slice la nb lc, .slice pa np pc, .bool d] 28)) = u0 at *
  generalize wd.heap.size = X at *
  refine (grbProvesI _ _ _ _ _ _ _ _ _ _ _ _ _ _ _ _ _ _ _ _ _ _ _ _ _ _ HL.out HP.out HG.out).mono ?_
  rw [HR.out]
  rintro e u1 ⟨rfl, hb⟩
  have HO' := Hid.mk' (HO.out.below hb)
  have HL' := Hid.mk' (HL.out.below hb)
  have HP' := Hid.mk' (HP.out.below hb)
  have HG' := Hid.mk' (HG.out.below hb)
  have Z' := Hid.mk' (bel_next Z.out hb)
  clear hb Z HO HL HP HG
  have HO := HO'
  clear HO'
  have HL := HL'
  clear HL'
  have HP := HP'
  clear HP'
  have HG := HG'
  clear HG'
  have Z := Z'
  clear Z'
  clear c0' c1 c2' cz
  obtain ⟨⟨c0', c1, c2'⟩, cz⟩ := HO.out
  go_wp2_with fail
  refine (grbProvesS _ _ _ _ _ _ _ _ _ _ _ _ _ _ _ _ _ _ _ _ _ _ _ _ _ _ HL.out HP.out HG.out).mono ?_
  rw [HR.out]
  rintro e u2 ⟨rfl, hb⟩
  have HO' := Hid.mk' (HO.out.below hb)
  have HL' := Hid.mk' (HL.out.below hb)
  have HP' := Hid.mk' (HP.out.below hb)
  have HG' := Hid.mk' (HG.out.below hb)
  have Z' := Hid.mk' (bel_next Z.out hb)
  clear hb Z HO HL HP HG
  have HO := HO'
  clear HO'
  have HL := HL'
  clear HL'
  have HP := HP'
  clear HP'
  have HG := HG'
  clear HG'
  have Z := Z'
  clear Z'
  clear c0' c1 c2' cz
  obtain ⟨⟨c0', c1, c2'⟩, cz⟩ := HO.out
  go_wp2_with fail
  obtain ⟨k1, hk1⟩ : ∃ k, lstOk nb (lN BL) (fN BL) = k := ⟨_, rfl⟩
  have HK1 := Hid.mk' hk1
  clear hk1
  refine (lstOkI _ _ _ _ _ _ _ _ HL.out).mono ?_
  rw [HK1.out]
  rintro e u3 ⟨rfl, hb⟩
  have HO' := Hid.mk' (HO.out.below hb)
  have HL' := Hid.mk' (HL.out.below hb)
  have HP' := Hid.mk' (HP.out.below hb)
  have HG' := Hid.mk' (HG.out.below hb)
  have Z' := Hid.mk' (bel_next Z.out hb)
  clear hb Z HO HL HP HG
  have HO := HO'
  clear HO'
  have HL := HL'
  clear HL'
  have HP := HP'
  clear HP'
  have HG := HG'
  clear HG'
  have Z := Z'
  clear Z'
  clear c0' c1 c2' cz
  obtain ⟨⟨c0', c1, c2'⟩, cz⟩ := HO.out
  cases k1
  · obtain rfl : false = R := (gp_no1 HK1.out).symm.trans HR.out
    go_wp2_with fail
    go_loopw [6, 7] (fun al vi wr => al = .bool false ∧ vi = .int .i64 0 ∧ wr = u3) (fun _ _ _ => 0)
    case atStart => exact ⟨rfl, rfl, rfl⟩
    case round =>
      obtain ⟨rfl, rfl, rfl⟩ := hrel
      by_cases hz : (0 : Int) < (nb : Int)
      · skip
        go_wp2_with fail
        refine (heOne_P _).mono ?_
        rintro e v1 ⟨oa, oc, rfl, ob, or⟩
        have Q1 := Hid.mk' (one_row or)
        have Y1 := Hid.mk' (bel_next Z.out (bel_next ob (bel_one v1 (.cells #[.slice oa 1 oc] 35))))
        clear ob or
        go_wp2_with fail
        generalize (v1.alloc (.cells #[.slice oa 1 oc] 35)) = V1 at *
        generalize v1.heap.size = B1 at *
        refine (heOne_P _).mono ?_
        rintro e v2 ⟨pa2, pc2, rfl, ob, or⟩
        have q2 := one_row or
        have o2 := bel_one v2 (.cells #[.slice pa2 1 pc2] 35)
        have hv2 : (v2.alloc (.cells #[.slice pa2 1 pc2] 35)).heap.size = v2.heap.size + 1 := by simp
        have q3 := one_row3 q2
        have o3 := bel_one (v2.alloc (.cells #[.slice pa2 1 pc2] 35)) (.cells #[.slice (some ⟨v2.heap.size, 0, none⟩) 1 1] 23)
        rw [hv2] at q3
        have ob3 := bel_next (bel_next ob o2) o3
        have Q1' := Hid.mk' (Q1.out.below ob3)
        have Q3 := Hid.mk' q3
        have Y3 := Hid.mk' (bel_next Y1.out ob3)
        clear ob or q2 o2 q3 o3 ob3 Q1 Y1 hv2
        go_wp2_with fail
        generalize ((v2.alloc (.cells #[.slice pa2 1 pc2] 35)).alloc (.cells #[.slice (some ⟨v2.heap.size, 0, none⟩) 1 1] 23)) = V3 at *
        generalize v2.heap.size + 1 = B3 at *
        generalize v2.heap.size = B2 at *
        refine (heOne_P _).mono ?_
        rintro e v4 ⟨ra, rc, rfl, ob, or⟩
        have b4 := bel_next ob (bel_one v4 (.cells #[.slice ra 1 rc] 35))
        have Q5 := Hid.mk' (one_row or)
        have Q6 := Hid.mk' (Q1'.out.below b4)
        have Q7 := Hid.mk' (Q3.out.below b4)
        have Y5 := Hid.mk' (bel_next Y3.out b4)
        clear ob or b4 Q1' Q3 Y3
        go_wp2_with fail
        generalize (v4.alloc (.cells #[.slice ra 1 rc] 35)) = V5 at *
        generalize v4.heap.size = B4 at *
        refine (grbProvesI _ _ _ _ _ _ _ _ _ _ _ _ _ _ _ _ _ _ _ _ _ _ _ _ _ _ Q6.out Q7.out Q5.out).mono ?_
        rw [one_proves]
        rintro e v6 ⟨rfl, hb⟩
        have Y6 := Hid.mk' (bel_next Y5.out hb)
        clear hb
        go_wp2
        go_ret
        exact ⟨rfl, Y6.out⟩
      · skip
        go_wp2_with fail
        refine (heOne_P _).mono ?_
        rintro e v1 ⟨oa, oc, rfl, ob, or⟩
        have Q1 := Hid.mk' (one_row or)
        have Y1 := Hid.mk' (bel_next Z.out (bel_next ob (bel_one v1 (.cells #[.slice oa 1 oc] 35))))
        clear ob or
        go_wp2_with fail
        generalize (v1.alloc (.cells #[.slice oa 1 oc] 35)) = V1 at *
        generalize v1.heap.size = B1 at *
        refine (heOne_P _).mono ?_
        rintro e v2 ⟨pa2, pc2, rfl, ob, or⟩
        have q2 := one_row or
        have o2 := bel_one v2 (.cells #[.slice pa2 1 pc2] 35)
        have hv2 : (v2.alloc (.cells #[.slice pa2 1 pc2] 35)).heap.size = v2.heap.size + 1 := by simp
        have q3 := one_row3 q2
        have o3 := bel_one (v2.alloc (.cells #[.slice pa2 1 pc2] 35)) (.cells #[.slice (some ⟨v2.heap.size, 0, none⟩) 1 1] 23)
        rw [hv2] at q3
        have ob3 := bel_next (bel_next ob o2) o3
        have Q1' := Hid.mk' (Q1.out.below ob3)
        have Q3 := Hid.mk' q3
        have Y3 := Hid.mk' (bel_next Y1.out ob3)
        clear ob or q2 o2 q3 o3 ob3 Q1 Y1 hv2
        go_wp2_with fail
        generalize ((v2.alloc (.cells #[.slice pa2 1 pc2] 35)).alloc (.cells #[.slice (some ⟨v2.heap.size, 0, none⟩) 1 1] 23)) = V3 at *
        generalize v2.heap.size + 1 = B3 at *
        generalize v2.heap.size = B2 at *
        refine (heOne_P _).mono ?_
        rintro e v4 ⟨ra, rc, rfl, ob, or⟩
        have b4 := bel_next ob (bel_one v4 (.cells #[.slice ra 1 rc] 35))
        have Q5 := Hid.mk' (one_row or)
        have Q6 := Hid.mk' (Q1'.out.below b4)
        have Q7 := Hid.mk' (Q3.out.below b4)
        have Y5 := Hid.mk' (bel_next Y3.out b4)
        clear ob or b4 Q1' Q3 Y3
        go_wp2_with fail
        generalize (v4.alloc (.cells #[.slice ra 1 rc] 35)) = V5 at *
        generalize v4.heap.size = B4 at *
        refine (grbProvesI _ _ _ _ _ _ _ _ _ _ _ _ _ _ _ _ _ _ _ _ _ _ _ _ _ _ Q6.out Q7.out Q5.out).mono ?_
        rw [one_proves]
        rintro e v6 ⟨rfl, hb⟩
        have Y6 := Hid.mk' (bel_next Y5.out hb)
        clear hb
        go_wp2
        go_ret
        exact ⟨rfl, Y6.out⟩
  obtain ⟨k2, hk2⟩ : ∃ k, lstOk n2 (lN L2) (fN L2) = k := ⟨_, rfl⟩
  have HK2 := Hid.mk' hk2
  clear hk2
  go_wp2_with fail
  refine (lstOkI _ _ _ _ _ _ _ _ HG.out).mono ?_
  rw [HK2.out]
  rintro e u4 ⟨rfl, hb⟩
  have HO' := Hid.mk' (HO.out.below hb)
  have HL' := Hid.mk' (HL.out.below hb)
  have HP' := Hid.mk' (HP.out.below hb)
  have HG' := Hid.mk' (HG.out.below hb)
  have Z' := Hid.mk' (bel_next Z.out hb)
  clear hb Z HO HL HP HG
  have HO := HO'
  clear HO'
  have HL := HL'
  clear HL'
  have HP := HP'
  clear HP'
  have HG := HG'
  clear HG'
  have Z := Z'
  clear Z'
  clear c0' c1 c2' cz
  obtain ⟨⟨c0', c1, c2'⟩, cz⟩ := HO.out
  cases k2
  · obtain rfl : false = R := (gp_no2 HK2.out).symm.trans HR.out
    go_wp2_with fail
    go_loopw [6, 7] (fun al vi wr => al = .bool false ∧ vi = .int .i64 0 ∧ wr = u4) (fun _ _ _ => 0)
    case atStart => exact ⟨rfl, rfl, rfl⟩
    case round =>
      obtain ⟨rfl, rfl, rfl⟩ := hrel
      by_cases hz : (0 : Int) < (nb : Int)
      · skip
        go_wp2_with fail
        refine (heOne_P _).mono ?_
        rintro e v1 ⟨oa, oc, rfl, ob, or⟩
        have Q1 := Hid.mk' (one_row or)
        have Y1 := Hid.mk' (bel_next Z.out (bel_next ob (bel_one v1 (.cells #[.slice oa 1 oc] 35))))
        clear ob or
        go_wp2_with fail
        generalize (v1.alloc (.cells #[.slice oa 1 oc] 35)) = V1 at *
        generalize v1.heap.size = B1 at *
        refine (heOne_P _).mono ?_
        rintro e v2 ⟨pa2, pc2, rfl, ob, or⟩
        have q2 := one_row or
        have o2 := bel_one v2 (.cells #[.slice pa2 1 pc2] 35)
        have hv2 : (v2.alloc (.cells #[.slice pa2 1 pc2] 35)).heap.size = v2.heap.size + 1 := by simp
        have q3 := one_row3 q2
        have o3 := bel_one (v2.alloc (.cells #[.slice pa2 1 pc2] 35)) (.cells #[.slice (some ⟨v2.heap.size, 0, none⟩) 1 1] 23)
        rw [hv2] at q3
        have ob3 := bel_next (bel_next ob o2) o3
        have Q1' := Hid.mk' (Q1.out.below ob3)
        have Q3 := Hid.mk' q3
        have Y3 := Hid.mk' (bel_next Y1.out ob3)
        clear ob or q2 o2 q3 o3 ob3 Q1 Y1 hv2
        go_wp2_with fail
        generalize ((v2.alloc (.cells #[.slice pa2 1 pc2] 35)).alloc (.cells #[.slice (some ⟨v2.heap.size, 0, none⟩) 1 1] 23)) = V3 at *
        generalize v2.heap.size + 1 = B3 at *
        generalize v2.heap.size = B2 at *
        refine (heOne_P _).mono ?_
        rintro e v4 ⟨ra, rc, rfl, ob, or⟩
        have b4 := bel_next ob (bel_one v4 (.cells #[.slice ra 1 rc] 35))
        have Q5 := Hid.mk' (one_row or)
        have Q6 := Hid.mk' (Q1'.out.below b4)
        have Q7 := Hid.mk' (Q3.out.below b4)
        have Y5 := Hid.mk' (bel_next Y3.out b4)
        clear ob or b4 Q1' Q3 Y3
        go_wp2_with fail
        generalize (v4.alloc (.cells #[.slice ra 1 rc] 35)) = V5 at *
        generalize v4.heap.size = B4 at *
        refine (grbProvesI _ _ _ _ _ _ _ _ _ _ _ _ _ _ _ _ _ _ _ _ _ _ _ _ _ _ Q6.out Q7.out Q5.out).mono ?_
        rw [one_proves]
        rintro e v6 ⟨rfl, hb⟩
        have Y6 := Hid.mk' (bel_next Y5.out hb)
        clear hb
        go_wp2
        go_ret
        exact ⟨rfl, Y6.out⟩
      · skip
        go_wp2_with fail
        refine (heOne_P _).mono ?_
        rintro e v1 ⟨oa, oc, rfl, ob, or⟩
        have Q1 := Hid.mk' (one_row or)
        have Y1 := Hid.mk' (bel_next Z.out (bel_next ob (bel_one v1 (.cells #[.slice oa 1 oc] 35))))
        clear ob or
        go_wp2_with fail
        generalize (v1.alloc (.cells #[.slice oa 1 oc] 35)) = V1 at *
        generalize v1.heap.size = B1 at *
        refine (heOne_P _).mono ?_
        rintro e v2 ⟨pa2, pc2, rfl, ob, or⟩
        have q2 := one_row or
        have o2 := bel_one v2 (.cells #[.slice pa2 1 pc2] 35)
        have hv2 : (v2.alloc (.cells #[.slice pa2 1 pc2] 35)).heap.size = v2.heap.size + 1 := by simp
        have q3 := one_row3 q2
        have o3 := bel_one (v2.alloc (.cells #[.slice pa2 1 pc2] 35)) (.cells #[.slice (some ⟨v2.heap.size, 0, none⟩) 1 1] 23)
        rw [hv2] at q3
        have ob3 := bel_next (bel_next ob o2) o3
        have Q1' := Hid.mk' (Q1.out.below ob3)
        have Q3 := Hid.mk' q3
        have Y3 := Hid.mk' (bel_next Y1.out ob3)
        clear ob or q2 o2 q3 o3 ob3 Q1 Y1 hv2
        go_wp2_with fail
        generalize ((v2.alloc (.cells #[.slice pa2 1 pc2] 35)).alloc (.cells #[.slice (some ⟨v2.heap.size, 0, none⟩) 1 1] 23)) = V3 at *
        generalize v2.heap.size + 1 = B3 at *
        generalize v2.heap.size = B2 at *
        refine (heOne_P _).mono ?_
        rintro e v4 ⟨ra, rc, rfl, ob, or⟩
        have b4 := bel_next ob (bel_one v4 (.cells #[.slice ra 1 rc] 35))
        have Q5 := Hid.mk' (one_row or)
        have Q6 := Hid.mk' (Q1'.out.below b4)
        have Q7 := Hid.mk' (Q3.out.below b4)
        have Y5 := Hid.mk' (bel_next Y3.out b4)
        clear ob or b4 Q1' Q3 Y3
        go_wp2_with fail
        generalize (v4.alloc (.cells #[.slice ra 1 rc] 35)) = V5 at *
        generalize v4.heap.size = B4 at *
        refine (grbProvesI _ _ _ _ _ _ _ _ _ _ _ _ _ _ _ _ _ _ _ _ _ _ _ _ _ _ Q6.out Q7.out Q5.out).mono ?_
        rw [one_proves]
        rintro e v6 ⟨rfl, hb⟩
        have Y6 := Hid.mk' (bel_next Y5.out hb)
        clear hb
        go_wp2
        go_ret
        exact ⟨rfl, Y6.out⟩
  by_cases hpn : np = nb
  rotate_left
  · obtain rfl : false = R := (gp_no3 hpn).symm.trans HR.out
    have hpb : ((np : Int) == (nb : Int)) = false := beq_eq_false_iff_ne.2 (by omega)
    go_wp2_with fail
    go_loopw [6, 7] (fun al vi wr => al = .bool false ∧ vi = .int .i64 0 ∧ wr = u4) (fun _ _ _ => 0)
    case atStart => exact ⟨rfl, rfl, rfl⟩
    case round =>
      obtain ⟨rfl, rfl, rfl⟩ := hrel
      by_cases hz : (0 : Int) < (nb : Int)
      · skip
        go_wp2_with fail
        refine (heOne_P _).mono ?_
        rintro e v1 ⟨oa, oc, rfl, ob, or⟩
        have Q1 := Hid.mk' (one_row or)
        have Y1 := Hid.mk' (bel_next Z.out (bel_next ob (bel_one v1 (.cells #[.slice oa 1 oc] 35))))
        clear ob or
        go_wp2_with fail
        generalize (v1.alloc (.cells #[.slice oa 1 oc] 35)) = V1 at *
        generalize v1.heap.size = B1 at *
        refine (heOne_P _).mono ?_
        rintro e v2 ⟨pa2, pc2, rfl, ob, or⟩
        have q2 := one_row or
        have o2 := bel_one v2 (.cells #[.slice pa2 1 pc2] 35)
        have hv2 : (v2.alloc (.cells #[.slice pa2 1 pc2] 35)).heap.size = v2.heap.size + 1 := by simp
        have q3 := one_row3 q2
        have o3 := bel_one (v2.alloc (.cells #[.slice pa2 1 pc2] 35)) (.cells #[.slice (some ⟨v2.heap.size, 0, none⟩) 1 1] 23)
        rw [hv2] at q3
        have ob3 := bel_next (bel_next ob o2) o3
        have Q1' := Hid.mk' (Q1.out.below ob3)
        have Q3 := Hid.mk' q3
        have Y3 := Hid.mk' (bel_next Y1.out ob3)
        clear ob or q2 o2 q3 o3 ob3 Q1 Y1 hv2
        go_wp2_with fail
        generalize ((v2.alloc (.cells #[.slice pa2 1 pc2] 35)).alloc (.cells #[.slice (some ⟨v2.heap.size, 0, none⟩) 1 1] 23)) = V3 at *
        generalize v2.heap.size + 1 = B3 at *
        generalize v2.heap.size = B2 at *
        refine (heOne_P _).mono ?_
        rintro e v4 ⟨ra, rc, rfl, ob, or⟩
        have b4 := bel_next ob (bel_one v4 (.cells #[.slice ra 1 rc] 35))
        have Q5 := Hid.mk' (one_row or)
        have Q6 := Hid.mk' (Q1'.out.below b4)
        have Q7 := Hid.mk' (Q3.out.below b4)
        have Y5 := Hid.mk' (bel_next Y3.out b4)
        clear ob or b4 Q1' Q3 Y3
        go_wp2_with fail
        generalize (v4.alloc (.cells #[.slice ra 1 rc] 35)) = V5 at *
        generalize v4.heap.size = B4 at *
        refine (grbProvesI _ _ _ _ _ _ _ _ _ _ _ _ _ _ _ _ _ _ _ _ _ _ _ _ _ _ Q6.out Q7.out Q5.out).mono ?_
        rw [one_proves]
        rintro e v6 ⟨rfl, hb⟩
        have Y6 := Hid.mk' (bel_next Y5.out hb)
        clear hb
        go_wp2
        go_ret
        exact ⟨rfl, Y6.out⟩
      · skip
        go_wp2_with fail
        refine (heOne_P _).mono ?_
        rintro e v1 ⟨oa, oc, rfl, ob, or⟩
        have Q1 := Hid.mk' (one_row or)
        have Y1 := Hid.mk' (bel_next Z.out (bel_next ob (bel_one v1 (.cells #[.slice oa 1 oc] 35))))
        clear ob or
        go_wp2_with fail
        generalize (v1.alloc (.cells #[.slice oa 1 oc] 35)) = V1 at *
        generalize v1.heap.size = B1 at *
        refine (heOne_P _).mono ?_
        rintro e v2 ⟨pa2, pc2, rfl, ob, or⟩
        have q2 := one_row or
        have o2 := bel_one v2 (.cells #[.slice pa2 1 pc2] 35)
        have hv2 : (v2.alloc (.cells #[.slice pa2 1 pc2] 35)).heap.size = v2.heap.size + 1 := by simp
        have q3 := one_row3 q2
        have o3 := bel_one (v2.alloc (.cells #[.slice pa2 1 pc2] 35)) (.cells #[.slice (some ⟨v2.heap.size, 0, none⟩) 1 1] 23)
        rw [hv2] at q3
        have ob3 := bel_next (bel_next ob o2) o3
        have Q1' := Hid.mk' (Q1.out.below ob3)
        have Q3 := Hid.mk' q3
        have Y3 := Hid.mk' (bel_next Y1.out ob3)
        clear ob or q2 o2 q3 o3 ob3 Q1 Y1 hv2
        go_wp2_with fail
        generalize ((v2.alloc (.cells #[.slice pa2 1 pc2] 35)).alloc (.cells #[.slice (some ⟨v2.heap.size, 0, none⟩) 1 1] 23)) = V3 at *
        generalize v2.heap.size + 1 = B3 at *
        generalize v2.heap.size = B2 at *
        refine (heOne_P _).mono ?_
        rintro e v4 ⟨ra, rc, rfl, ob, or⟩
        have b4 := bel_next ob (bel_one v4 (.cells #[.slice ra 1 rc] 35))
        have Q5 := Hid.mk' (one_row or)
        have Q6 := Hid.mk' (Q1'.out.below b4)
        have Q7 := Hid.mk' (Q3.out.below b4)
        have Y5 := Hid.mk' (bel_next Y3.out b4)
        clear ob or b4 Q1' Q3 Y3
        go_wp2_with fail
        generalize (v4.alloc (.cells #[.slice ra 1 rc] 35)) = V5 at *
        generalize v4.heap.size = B4 at *
        refine (grbProvesI _ _ _ _ _ _ _ _ _ _ _ _ _ _ _ _ _ _ _ _ _ _ _ _ _ _ Q6.out Q7.out Q5.out).mono ?_
        rw [one_proves]
        rintro e v6 ⟨rfl, hb⟩
        have Y6 := Hid.mk' (bel_next Y5.out hb)
        clear hb
        go_wp2
        go_ret
        exact ⟨rfl, Y6.out⟩
  subst hpn
  have HRQ : Hid (R = decide (∀ i, i < np → gpAt (lN BL) (fN BL) (fun _ => g) (fun i => lN (BP i)) (fun i => fN (BP i)) n2 (lN L2) (fN L2) i = true)) := Hid.mk' (HR.out.symm.trans (gp_yes HK1.out HK2.out))
  clear HR HK1 HK2
  have hpp : ((np : Int) == (np : Int)) = true := by simp
  obtain ⟨Q, hQ⟩ : ∃ Q : Nat → Bool, Q = gpAt (lN BL) (fN BL) (fun _ => g) (fun i => lN (BP i)) (fun i => fN (BP i)) n2 (lN L2) (fN L2) := ⟨_, rfl⟩
  rw [← hQ] at HRQ
  have HQ := Hid.mk' hQ
  clear hQ
  go_wp2_with fail
  go_loopw [6, 7] (fun al vi wr => ∃ (i : Nat) (x : Bool), i ≤ np ∧ vi = .int .i64 (i : Int) ∧ al = .bool x ∧ x = decide (∀ j, j < i → Q j = true) ∧ Below u4.heap.size u4 wr) (fun _ vi _ => np - (intOf vi).toNat)
  case atStart => exact ⟨0, true, Nat.zero_le _, rfl, rfl, (decide_eq_true (fun j hj => absurd hj (Nat.not_lt_zero _))).symm, Below.refl _ _⟩
  case round =>
    obtain ⟨i, x, hi, rfl, rfl, hx, hBel⟩ := hrel
    have HBW := Hid.mk' hBel
    have HX := Hid.mk' hx
    have HO' := Hid.mk' (HO.out.below hBel)
    have HL' := Hid.mk' (HL.out.below hBel)
    have HP' := Hid.mk' (HP.out.below hBel)
    have HG' := Hid.mk' (HG.out.below hBel)
    have Z' := Hid.mk' (bel_next Z.out hBel)
    clear hBel hx HO HL HP HG Z c0' c1 c2' cz
    have HO := HO'
    have HL := HL'
    have HP := HP'
    have HG := HG'
    have Z := Z'
    clear HO' HL' HP' HG' Z'
    obtain ⟨⟨c0', c1, c2'⟩, cz⟩ := HO.out
    by_cases hlt : i < np
    · have hil : (i : Int) < (np : Int) := by omega
      cases x
      · have hR0 : R = false := HRQ.out.trans (all_less hi HX.out.symm)
        subst hR0
        go_wp2_with fail
        refine (heOne_P _).mono ?_
        rintro e v1 ⟨oa, oc, rfl, ob, or⟩
        have Q1 := Hid.mk' (one_row or)
        have Y1 := Hid.mk' (bel_next Z.out (bel_next ob (bel_one v1 (.cells #[.slice oa 1 oc] 35))))
        clear ob or
        go_wp2_with fail
        generalize (v1.alloc (.cells #[.slice oa 1 oc] 35)) = V1 at *
        generalize v1.heap.size = B1 at *
        refine (heOne_P _).mono ?_
        rintro e v2 ⟨pa2, pc2, rfl, ob, or⟩
        have q2 := one_row or
        have o2 := bel_one v2 (.cells #[.slice pa2 1 pc2] 35)
        have hv2 : (v2.alloc (.cells #[.slice pa2 1 pc2] 35)).heap.size = v2.heap.size + 1 := by simp
        have q3 := one_row3 q2
        have o3 := bel_one (v2.alloc (.cells #[.slice pa2 1 pc2] 35)) (.cells #[.slice (some ⟨v2.heap.size, 0, none⟩) 1 1] 23)
        rw [hv2] at q3
        have ob3 := bel_next (bel_next ob o2) o3
        have Q1' := Hid.mk' (Q1.out.below ob3)
        have Q3 := Hid.mk' q3
        have Y3 := Hid.mk' (bel_next Y1.out ob3)
        clear ob or q2 o2 q3 o3 ob3 Q1 Y1 hv2
        go_wp2_with fail
        generalize ((v2.alloc (.cells #[.slice pa2 1 pc2] 35)).alloc (.cells #[.slice (some ⟨v2.heap.size, 0, none⟩) 1 1] 23)) = V3 at *
        generalize v2.heap.size + 1 = B3 at *
        generalize v2.heap.size = B2 at *
        refine (heOne_P _).mono ?_
        rintro e v4 ⟨ra, rc, rfl, ob, or⟩
        have b4 := bel_next ob (bel_one v4 (.cells #[.slice ra 1 rc] 35))
        have Q5 := Hid.mk' (one_row or)
        have Q6 := Hid.mk' (Q1'.out.below b4)
        have Q7 := Hid.mk' (Q3.out.below b4)
        have Y5 := Hid.mk' (bel_next Y3.out b4)
        clear ob or b4 Q1' Q3 Y3
        go_wp2_with fail
        generalize (v4.alloc (.cells #[.slice ra 1 rc] 35)) = V5 at *
        generalize v4.heap.size = B4 at *
        refine (grbProvesI _ _ _ _ _ _ _ _ _ _ _ _ _ _ _ _ _ _ _ _ _ _ _ _ _ _ Q6.out Q7.out Q5.out).mono ?_
        rw [one_proves]
        rintro e v6 ⟨rfl, hb⟩
        have Y6 := Hid.mk' (bel_next Y5.out hb)
        clear hb
        go_wp2
        go_ret
        exact ⟨rfl, Y6.out⟩
      · obtain ⟨lb, lof, rfl, hlb, hlcl⟩ := HL.out.2.2.1.resolve_left (by omega)
        obtain ⟨pb, pof, rfl, hpb, hpcl⟩ := HP.out.2.2.1.resolve_left (by omega)
        have p0 := hpcl i hlt
        obtain ⟨Y, xo, hy⟩ : ∃ Y b, redSum g (lN (BP i)) (fN (BP i)) n2 (lN L2) (fN L2) = (Y, b) := ⟨_, _, rfl⟩
        have HY := Hid.mk' hy
        have HRP := Hid.mk' (HP.out.2.2.2 i hlt)
        have HGQ : Hid (Q i = (xo && sq Y (BL i))) := Hid.mk' (by rw [HQ.out]; unfold gpAt; simp only [hy]; rfl)
        clear hy hpcl hlcl
        go_wp2_with fail
        refine (rsum_I HRP.out HG.out).mono ?_
        rw [HY.out]
        rintro e w5 ⟨xa, xc, rfl, hb5, hrx⟩
        have HXR : Hid (RL w5 xa xc Y) := Hid.mk' hrx
        have HB5 := Hid.mk' (bel_next HBW.out hb5)
        have HL5 := Hid.mk' (HL.out.below hb5)
        have HO5 := Hid.mk' (HO.out.below hb5)
        clear hrx hb5 HRP p0 c0' c1 c2' cz
        obtain ⟨⟨c0', c1, c2'⟩, cz⟩ := HO5.out
        cases xo
        · go_wp2
          go_roundw
          case rel => exact ⟨i + 1, false, by omega, by go_num, rfl, by rw [all_next, ← HX.out, HGQ.out]; rfl, HB5.out⟩
          case measure => simp [intOf]; omega
        · obtain ⟨lb2, lof2, el2, _, hlc2⟩ := HL5.out.2.2.1.resolve_left (by omega)
          cases el2
          have b0 : w5.cell? ⟨lb, lof + i, none⟩ = some (.slice (ad i) (BL i).length (cp i)) := hlc2 i hlt
          have HRB : Hid (RL w5 (ad i) (cp i) (BL i)) := Hid.mk' (HL5.out.2.2.2 i hlt)
          clear hlc2
          go_wp2_with fail
          refine (he_L HXR.out HRB.out).mono ?_
          rintro e w6 ⟨rfl, hb6⟩
          have HB6 := Hid.mk' (bel_next HB5.out hb6)
          clear hb6
          go_wp2
          go_roundw
          case rel => exact ⟨i + 1, _, by omega, by go_num, rfl, by rw [all_next, ← HX.out, HGQ.out]; simp, HB6.out⟩
          case measure => simp [intOf]; omega
    · have hnl : ¬ (i : Int) < (np : Int) := by omega
      obtain rfl : i = np := by omega
      obtain rfl : R = x := HRQ.out.trans HX.out.symm
      go_wp2_with fail
      refine (heOne_P _).mono ?_
      rintro e v1 ⟨oa, oc, rfl, ob, or⟩
      have Q1 := Hid.mk' (one_row or)
      have Y1 := Hid.mk' (bel_next Z.out (bel_next ob (bel_one v1 (.cells #[.slice oa 1 oc] 35))))
      clear ob or
      go_wp2_with fail
      generalize (v1.alloc (.cells #[.slice oa 1 oc] 35)) = V1 at *
      generalize v1.heap.size = B1 at *
      refine (heOne_P _).mono ?_
      rintro e v2 ⟨pa2, pc2, rfl, ob, or⟩
      have q2 := one_row or
      have o2 := bel_one v2 (.cells #[.slice pa2 1 pc2] 35)
      have hv2 : (v2.alloc (.cells #[.slice pa2 1 pc2] 35)).heap.size = v2.heap.size + 1 := by simp
      have q3 := one_row3 q2
      have o3 := bel_one (v2.alloc (.cells #[.slice pa2 1 pc2] 35)) (.cells #[.slice (some ⟨v2.heap.size, 0, none⟩) 1 1] 23)
      rw [hv2] at q3
      have ob3 := bel_next (bel_next ob o2) o3
      have Q1' := Hid.mk' (Q1.out.below ob3)
      have Q3 := Hid.mk' q3
      have Y3 := Hid.mk' (bel_next Y1.out ob3)
      clear ob or q2 o2 q3 o3 ob3 Q1 Y1 hv2
      go_wp2_with fail
      generalize ((v2.alloc (.cells #[.slice pa2 1 pc2] 35)).alloc (.cells #[.slice (some ⟨v2.heap.size, 0, none⟩) 1 1] 23)) = V3 at *
      generalize v2.heap.size + 1 = B3 at *
      generalize v2.heap.size = B2 at *
      refine (heOne_P _).mono ?_
      rintro e v4 ⟨ra, rc, rfl, ob, or⟩
      have b4 := bel_next ob (bel_one v4 (.cells #[.slice ra 1 rc] 35))
      have Q5 := Hid.mk' (one_row or)
      have Q6 := Hid.mk' (Q1'.out.below b4)
      have Q7 := Hid.mk' (Q3.out.below b4)
      have Y5 := Hid.mk' (bel_next Y3.out b4)
      clear ob or b4 Q1' Q3 Y3
      go_wp2_with fail
      generalize (v4.alloc (.cells #[.slice ra 1 rc] 35)) = V5 at *
      generalize v4.heap.size = B4 at *
      refine (grbProvesI _ _ _ _ _ _ _ _ _ _ _ _ _ _ _ _ _ _ _ _ _ _ _ _ _ _ Q6.out Q7.out Q5.out).mono ?_
      rw [one_proves]
      rintro e v6 ⟨rfl, hb⟩
      have Y6 := Hid.mk' (bel_next Y5.out hb)
      clear hb
      go_wp2
      go_ret
      exact ⟨rfl, Y6.out⟩
end Go.Proofs.YtmlaedpamobmhaaGreat
