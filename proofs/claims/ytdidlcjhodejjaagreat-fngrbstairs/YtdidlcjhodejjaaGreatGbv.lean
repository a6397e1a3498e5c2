/-
  What is true of a list of whose pairs nothing is left: what is made of it, what is left by it.
  The draw of an operator, one in so many with something wrong, also where much has been drawn before.
  An order and a basis, or but some operators, are drawn (spec.l20Base); what is drawn lies apart from the reader.
-/
import Derived.Test.YtdidlcjhodejjaaGreatGbt
import Derived.Test.YtdidlcjhodejjaaGreatGbp
import Derived.Test.YtdidlcjhodejjaaGreatGbm
import Derived.Test.YtdidlcjhodejjaaGreatGax
import Derived.Test.YtdidlcjhodejjaaGreatGbu
namespace Go.Proofs.YtdidlcjhodejjaaGreat
open Go.RowKit Go.Deep Go.Joins
set_option linter.unusedVariables false

theorem prK_two {o : Int} {n : Nat} {L : Nat → List T} {i k : Nat} (h : prK o n L i k = 2) : ∃ s S, sprPoly o (lf (L i)) (L i).length (lf (L k)) (L k).length = (s, true) ∧ redAll o s n (lN L) (fN L) = some S ∧ S.r = [] := by
  unfold prK at h
  split at h
  · rename_i s hs
    split at h
    · rename_i S hS
      split at h
      · rename_i h0
        exact ⟨s, S, hs, hS, List.length_eq_zero_iff.1 h0⟩
      · omega
    · omega
  · omega
theorem bas_ok {o : Int} {n : Nat} {L : Nat → List T} (h : grbOk o n L = true) : Bas o n L ∧ (1 ≤ o ∧ o ≤ 3) ∧ lstOk n (lN L) (fN L) = true := by
  obtain ⟨ho, hl, hp⟩ := of_decide_eq_true h
  have hL := lds_of ho hl
  refine ⟨bas_of hL fun i k hi hk => ?_, ho, hl⟩
  obtain ⟨s, S, h1, h2, h3⟩ := prK_two (hp k hk i hi)
  exact pair_done hL (by omega) hk h1 h2 h3
theorem wm_parts {A B P : List T} (h : wmV A B = (P, true)) : okL A = true ∧ okL B = true := by
  unfold wmV wylMul at h
  split at h
  · assumption
  · cases h
theorem add_parts {A B P : List T} (h : addV A B = (P, true)) : okL A = true ∧ okL B = true ∧ P = addL A B := by
  rcases addV_case A B with e | ⟨h1, h2, _, e⟩
  · rw [e] at h; cases h
  · rw [e] at h; cases h; exact ⟨h1, h2, rfl⟩
theorem sub_parts {A B P : List T} (h : subV A B = (P, true)) : okL A = true ∧ okL B = true ∧ P = subL A B := by
  rcases subV_case A B with e | ⟨h1, h2, _, e⟩
  · rw [e] at h; cases h
  · rw [e] at h; cases h; exact ⟨h1, h2, rfl⟩
theorem prod_idl {n : Nat} {L : Nat → List T} {q P : List T} {B : List T} (hB : Idl n L (Rp regG B)) (h : wmV q B = (P, true)) : Idl n L (Rp regG P) := by
  rw [Rp_mul regG h]
  exact hB.mulRp q (falls_nn (okL_falls (wm_parts h).1).2)
theorem gin_nil {S : Dv} (h : S.r = []) : gin (some S) = true := by
  show (true && decide (S.r.length = 0)) = true
  rw [h]; rfl
theorem gin_not {S : Dv} (h : S.r ≠ []) : gin (some S) = false := by
  show (true && decide (S.r.length = 0)) = false
  rw [decide_eq_false (fun e => h (List.length_eq_zero_iff.1 e))]; rfl
theorem gin_is {S : Dv} (h : gin (some S) = true) : S.r = [] := by
  by_cases e : S.r = []
  · exact e
  · rw [gin_not e] at h; cases h
/-- of products with operators of a basis, and of their sum, nothing is left. -/
theorem law_in {o : Int} {n : Nat} {L : Nat → List T} (hB : Bas o n L) {k m : Nat} (hk : k < n) (hm : m < n) {q p X Y S : List T} (h1 : wmV q (L k) = (X, true)) (h2 : wmV p (L m) = (Y, true)) (h3 : addV X Y = (S, true)) {D : Dv} (hD : redAll o S n (lN L) (fN L) = some D) : gin (some D) = true := by
  refine gin_nil (hB.left hD ?_)
  obtain ⟨oX, oY, rfl⟩ := add_parts h3
  rw [Rp_add regG (okL_falls oX).2 (okL_falls oY).2]
  exact (prod_idl (Idl.gen hk) h1).sum (prod_idl (Idl.gen hm) h2)
theorem law_left {o : Int} {n : Nat} {L : Nat → List T} (hB : Bas o n L) {q p X : List T} {S D : Dv} (hS : redAll o p n (lN L) (fN L) = some S) (h0 : S.r = []) (h1 : wmV q p = (X, true)) (hD : redAll o X n (lN L) (fN L) = some D) : gin (some D) = true := gin_nil (hB.left hD (prod_idl (left_made hS h0) h1))
theorem law_tell {o : Int} {n : Nat} {L : Nat → List T} (hB : Bas o n L) {p q d : List T} {S S' D : Dv} (hS : redAll o p n (lN L) (fN L) = some S) (hS' : redAll o q n (lN L) (fN L) = some S') (hd : subV p q = (d, true)) (hD : redAll o d n (lN L) (fN L) = some D) : gin (some D) = sq S.r S'.r := by
  obtain ⟨_, _, rfl⟩ := sub_parts hd
  by_cases e : S.r = S'.r
  · rw [e, sq_same]
    exact gin_nil (hB.left hD (Bas.tell' hS hS' e))
  · rw [show sq S.r S'.r = false by cases h : sq S.r S'.r; rfl; exact absurd (sq_iff.1 h) e]
    exact gin_not fun h0 => e (hB.tell hS hS' (left_made hD h0))
end Go.Proofs.YtdidlcjhodejjaaGreat
namespace Go.Proofs.YtdidlcjhodejjaaGreat
open Go.RowKit
set_option linter.unusedVariables false
set_option maxRecDepth 100000 in
set_option maxHeartbeats 8000000 in
theorem any_any5 (w : World) (B p : Nat) (n : Int) (h : Rdr w B p) (hn : 1 ≤ n) (hn' : n ≤ 1000) (hp : p ≤ 5000) :
    Calls Tryz.prog 66 #[.pointer (some ⟨B, 0, none⟩), .int .i64 n] w fun r w' => ∃ (a : Option Addr) (m cap : Nat) (f : Nat → T) (q : Nat), r = .returned (.slice a m cap) ∧ Rd w' a m cap f ∧ m ≤ 5 ∧ (m = 0 ∨ ∃ g off, a = some ⟨g, off, none⟩ ∧ w.heap.size ≤ g) ∧ q ≤ p + 700 ∧ Rdr w' B q ∧ Beside B w w' := by
  have hB := h.lt
  obtain ⟨i0, hi0, hz0, hz1, hz2⟩ := info_parts infoT
  go_enter Tryz.func66, Tryz.ntmps66
  go_wp2_with fail
  refine (pol_any w B p 4 h (by omega) (by omega) (by omega)).mono ?_
  rintro e w1 ⟨v, L, q1, rfl, ho1, hl1, hc1, hq1, hR1, hb1⟩
  obtain ⟨a, cap, rfl, hout1⟩ := out_of_owns ho1 (by omega)
  have HO1 := Hid.mk' ho1
  have HR1 := Hid.mk' hR1
  have HB1 := Hid.mk' hb1
  clear ho1 hR1 hb1 hout1 h hc1
  go_wp2_with fail
  refine (pick_any w1 B q1 n HR1.out (by omega) (by omega) (by omega)).mono ?_
  rintro e w2 ⟨x, rfl, x0, x1, hk⟩
  have HR2 := Hid.mk' (hk.rdr HR1.out)
  have HB2 := Hid.mk' (HB1.out.trans hk.beside)
  have HO2 := Hid.mk' (owns_beside HO1.out hk.beside hB)
  clear hk HR1 HB1 HO1
  by_cases hx : 0 < x
  · have hout := out_of_owns HO2.out (by omega)
    go_wp2
    go_ret
    obtain ⟨a', cap', he, ho⟩ := hout
    cases he
    exact ⟨_, _, _, _, _, rfl, ho.1, by omega, ho.2.2, by omega, HR2.out, HB2.out⟩
  · obtain rfl : x = 0 := by omega
    clear hx
    by_cases hz : L.length = 0
    · have hzb : ((L.length : Int) == 0) = true := by simp [hz]
      clear hz
      go_wp2_with fail
      refine Code.wp_mono (Q := fun e b u => e = Exit.normal ∧ ∃ (q : Nat) (vs : Nat → Value) (L2 : List T), b = { tmps := #[Value.pointer (some ⟨B, 0, none⟩), Value.int IntKind.i64 n, undef, undef, vs 11, Value.slice a L.length cap, Value.pointer (some ⟨B, 0, none⟩), Value.slice a L.length cap, Value.pointer (some ⟨B, 0, none⟩), Value.int IntKind.i64 n, Value.int IntKind.i64 0, Value.bool false, undef, Value.bool true, Value.slice a L.length cap, Value.int IntKind.i64 (L.length : Int), Value.bool true, Value.bool true, undef, undef, undef, Value.bool true, vs 0, vs 1, vs 2, vs 3, vs 4, vs 5, vs 6, vs 7, vs 8, vs 9, vs 10, undef, undef, undef, undef, undef, undef, undef, undef, undef, undef, undef, undef, undef, undef, undef, undef, undef, undef, undef], defers := [] } ∧ Rdr u B q ∧ q ≤ q1 + 1 + 360 ∧ Beside B w u ∧ u.ownsRow w.heap.size 42 5 (vs 11) L2.length (cellsL L2) ∧ L2.length ≤ 5) ?_ ?_
      rotate_left
      · have hBN : B < w2.heap.size := HR2.out.lt
        refine wp_region_ri2 (fun vs : Nat → Value => ({ tmps := #[Value.pointer (some ⟨B, 0, none⟩), Value.int IntKind.i64 n, undef, undef, vs 11, Value.slice a L.length cap, Value.pointer (some ⟨B, 0, none⟩), Value.slice a L.length cap, Value.pointer (some ⟨B, 0, none⟩), Value.int IntKind.i64 n, Value.int IntKind.i64 0, Value.bool false, undef, Value.bool true, Value.slice a L.length cap, Value.int IntKind.i64 (L.length : Int), Value.bool true, Value.bool true, undef, undef, undef, Value.bool true, vs 0, vs 1, vs 2, vs 3, vs 4, vs 5, vs 6, vs 7, vs 8, vs 9, vs 10, undef, undef, undef, undef, undef, undef, undef, undef, undef, undef, undef, undef, undef, undef, undef, undef, undef, undef, undef], defers := [] } : Act)) (fun k => match k with | 0 => SK2.is (.slice a L.length cap) | 1 => SK2.old (SK.sl 4) | 2 => SK2.old SK.rd | 3 => SK2.old (SK.pk 4) | 4 => SK2.old SK.ix | 5 => SK2.old SK.ld | 6 => SK2.old SK.rd | 7 => SK2.old SK.ag | 8 => SK2.a5 | 9 => SK2.s1 | 10 => SK2.own | 11 => SK2.own | _ => SK2.own) 12 10 B (q1 + 1) w2.heap.size (fun u => u.ownsRow w.heap.size 42 5 (.slice a L.length cap) L.length (cellsL L)) (fun u v => ∃ L2, u.ownsRow w.heap.size 42 5 v L2.length (cellsL L2) ∧ L2.length ≤ 5) w (by kernel_rfl) ?_ ?_ ?_
        · exact RI2.start (fun k => if k = 11 then .slice none 0 0 else undef) rfl HR2.out HB2.out (Nat.le_refl _) (owns_below HO2.out (Below.refl _ _).drew)
        · intro l b u hI i hi
          obtain ⟨q, vs, rfl, hR, hq, hbz, hN, hX, hsz, hcl, hf⟩ := hI
          have hl0 := (mem_ready.1 hi).1
          have hund1 : 1 ≤ undone l := by have := undone_set (getD_false hl0); omega
          have hXm : ∀ u u' : World, u.ownsRow w.heap.size 42 5 (.slice a L.length cap) L.length (cellsL L) → Beside B u u' → u'.ownsRow w.heap.size 42 5 (.slice a L.length cap) L.length (cellsL L) := fun u u' h hb => owns_beside h hb hB
          have hYm : ∀ (u u' : World) (v : Value), (∃ L2, u.ownsRow w.heap.size 42 5 v L2.length (cellsL L2) ∧ L2.length ≤ 5) → Beside B u u' → (∃ L2, u'.ownsRow w.heap.size 42 5 v L2.length (cellsL L2) ∧ L2.length ≤ 5) := fun u u' v h hb => by obtain ⟨L2, h1, h2⟩ := h; exact ⟨L2, owns_beside h1 hb hB, h2⟩
          have hi12 : i < 12 := by
            obtain ⟨_, o, ho, _⟩ := mem_ready.1 hi
            exact (Array.getElem?_eq_some_iff.1 ho).1
          rcases (show i = 0 ∨ i = 1 ∨ i = 2 ∨ i = 3 ∨ i = 4 ∨ i = 5 ∨ i = 6 ∨ i = 7 ∨ i = 8 ∨ i = 9 ∨ i = 10 ∨ i = 11 from by omega) with rfl | rfl | rfl | rfl | rfl | rfl | rfl | rfl | rfl | rfl | rfl | rfl
          · have hA : l.getD 10 false = false := by
              cases hx : l.getD 10 false
              · rfl
              · have hx0 := hcl.dep (i := 10) rfl hx 0 (by kernel_rfl)
                exact (not_done hl0 hx0).elim
            refine wpOp_step rfl (fun K hK => ?_)
            go_simp
            refine hK _ _ ?_
            exact RI2.step (q' := q) 0 (.slice a L.length cap) hBN hi rfl hA (by decide) hq hR (by omega) hbz hN hX hXm hsz hcl hf hYm (Beside.refl _ u) rfl rfl
          · have hA : l.getD 10 false = false := by
              cases hx : l.getD 10 false
              · rfl
              · have hx0 := hcl.dep (i := 10) rfl hx 9 (by kernel_rfl)
                have hx1 := hcl.dep (i := 9) rfl hx0 8 (by kernel_rfl)
                have hx2 := hcl.dep (i := 8) rfl hx1 5 (by kernel_rfl)
                have hx3 := hcl.dep (i := 5) rfl hx2 4 (by kernel_rfl)
                have hx4 := hcl.dep (i := 4) rfl hx3 1 (by kernel_rfl)
                exact (not_done hl0 hx4).elim
            refine wpOp_step rfl (fun K hK => ?_)
            go_simp
            refine hK _ _ ?_
            exact RI2.step (q' := q) 1 (.slice (some ⟨u.heap.size, 0, none⟩) 4 4) hBN hi rfl hA (by decide) hq (hR.alloc _) (by omega) hbz hN hX hXm hsz hcl hf hYm (bes_alloc _ u _) (sl_new4 u _ _ _ _ _ _ hN) rfl
          · have hA : l.getD 10 false = false := by
              cases hx : l.getD 10 false
              · rfl
              · have hx0 := hcl.dep (i := 10) rfl hx 9 (by kernel_rfl)
                have hx1 := hcl.dep (i := 9) rfl hx0 8 (by kernel_rfl)
                have hx2 := hcl.dep (i := 8) rfl hx1 5 (by kernel_rfl)
                have hx3 := hcl.dep (i := 5) rfl hx2 4 (by kernel_rfl)
                have hx4 := hcl.dep (i := 4) rfl hx3 3 (by kernel_rfl)
                have hx5 := hcl.dep (i := 3) rfl hx4 2 (by kernel_rfl)
                exact (not_done hl0 hx5).elim
            refine wpOp_step rfl (fun K hK => ?_)
            go_simp
            refine hK _ _ ?_
            exact RI2.step (q' := q) 2 (.pointer (some ⟨B, 0, none⟩)) hBN hi rfl hA (by decide) hq hR (by omega) hbz hN hX hXm hsz hcl hf hYm (Beside.refl _ u) rfl rfl
          · have hA : l.getD 10 false = false := by
              cases hx : l.getD 10 false
              · rfl
              · have hx0 := hcl.dep (i := 10) rfl hx 9 (by kernel_rfl)
                have hx1 := hcl.dep (i := 9) rfl hx0 8 (by kernel_rfl)
                have hx2 := hcl.dep (i := 8) rfl hx1 5 (by kernel_rfl)
                have hx3 := hcl.dep (i := 5) rfl hx2 4 (by kernel_rfl)
                have hx4 := hcl.dep (i := 4) rfl hx3 3 (by kernel_rfl)
                exact (not_done hl0 hx4).elim
            have e1 : vs 2 = .pointer (some ⟨B, 0, none⟩) := hf 2 (ready_dep hi rfl 2 (by kernel_rfl)) (fun _ => hA)
            refine wpOp_step rfl (fun K hK => ?_)
            go_simp
            refine (pick_any u _ q 4 hR (by omega) (by omega) (by omega)).mono ?_
            rintro e u' ⟨x, rfl, x0, x1, hk⟩
            refine hK _ _ ?_
            exact RI2.step (q' := q + 1) 3 (.int .i64 x) hBN hi rfl hA (by decide) hq (hk.rdr hR) (by omega) hbz hN hX hXm hsz hcl hf hYm hk.beside ⟨x.toNat, by omega, by rw [Int.toNat_of_nonneg x0]⟩ (by first | (rw [← e1]; done) | (rw [← e1]; rfl))
          · have hA : l.getD 10 false = false := by
              cases hx : l.getD 10 false
              · rfl
              · have hx0 := hcl.dep (i := 10) rfl hx 9 (by kernel_rfl)
                have hx1 := hcl.dep (i := 9) rfl hx0 8 (by kernel_rfl)
                have hx2 := hcl.dep (i := 8) rfl hx1 5 (by kernel_rfl)
                have hx3 := hcl.dep (i := 5) rfl hx2 4 (by kernel_rfl)
                exact (not_done hl0 hx3).elim
            obtain ⟨b, e1, hb, hcb⟩ : Sl u w2.heap.size 4 (vs 1) := hf 1 (ready_dep hi rfl 1 (by kernel_rfl)) (fun _ => hA)
            obtain ⟨j, hj, e2⟩ : Pk 4 (vs 3) := hf 3 (ready_dep hi rfl 3 (by kernel_rfl)) (fun _ => hA)
            obtain ⟨x, hx⟩ := hcb j hj
            have hji : (j : Int) < 4 := by omega
            clear hcb
            refine wpOp_step rfl (fun K hK => ?_)
            go_simp
            refine hK _ _ ?_
            exact RI2.step (q' := q) 4 (.pointer (some ⟨b, j, none⟩)) hBN hi rfl hA (by decide) hq hR (by omega) hbz hN hX hXm hsz hcl hf hYm (Beside.refl _ u) ⟨b, j, x, rfl, hb, hx⟩ (by first | (rw [← e1, ← e2]; done) | (rw [← e1, ← e2]; rfl))
          · have hA : l.getD 10 false = false := by
              cases hx : l.getD 10 false
              · rfl
              · have hx0 := hcl.dep (i := 10) rfl hx 9 (by kernel_rfl)
                have hx1 := hcl.dep (i := 9) rfl hx0 8 (by kernel_rfl)
                have hx2 := hcl.dep (i := 8) rfl hx1 5 (by kernel_rfl)
                exact (not_done hl0 hx2).elim
            obtain ⟨b, j, x, e1, hb, hx⟩ : Ix u w2.heap.size (vs 4) := hf 4 (ready_dep hi rfl 4 (by kernel_rfl)) (fun _ => hA)
            refine wpOp_step rfl (fun K hK => ?_)
            go_simp
            refine hK _ _ ?_
            exact RI2.step (q' := q) 5 (.int .i64 x) hBN hi rfl hA (by decide) hq hR (by omega) hbz hN hX hXm hsz hcl hf hYm (Beside.refl _ u) ⟨x, rfl⟩ (by first | (rw [← e1]; done) | (rw [← e1]; rfl))
          · have hA : l.getD 10 false = false := by
              cases hx : l.getD 10 false
              · rfl
              · have hx0 := hcl.dep (i := 10) rfl hx 9 (by kernel_rfl)
                have hx1 := hcl.dep (i := 9) rfl hx0 8 (by kernel_rfl)
                have hx2 := hcl.dep (i := 8) rfl hx1 7 (by kernel_rfl)
                have hx3 := hcl.dep (i := 7) rfl hx2 6 (by kernel_rfl)
                exact (not_done hl0 hx3).elim
            refine wpOp_step rfl (fun K hK => ?_)
            go_simp
            refine hK _ _ ?_
            exact RI2.step (q' := q) 6 (.pointer (some ⟨B, 0, none⟩)) hBN hi rfl hA (by decide) hq hR (by omega) hbz hN hX hXm hsz hcl hf hYm (Beside.refl _ u) rfl rfl
          · have hA : l.getD 10 false = false := by
              cases hx : l.getD 10 false
              · rfl
              · have hx0 := hcl.dep (i := 10) rfl hx 9 (by kernel_rfl)
                have hx1 := hcl.dep (i := 9) rfl hx0 8 (by kernel_rfl)
                have hx2 := hcl.dep (i := 8) rfl hx1 7 (by kernel_rfl)
                exact (not_done hl0 hx2).elim
            have e1 : vs 6 = .pointer (some ⟨B, 0, none⟩) := hf 6 (ready_dep hi rfl 6 (by kernel_rfl)) (fun _ => hA)
            refine wpOp_step rfl (fun K hK => ?_)
            go_simp
            refine (mon_any u _ q 2 hR (by omega) (by omega) (by omega)).mono ?_
            rintro e u' ⟨x0, x1, x2, x3, q', rfl, hq', hr', hk⟩
            refine hK _ _ ?_
            exact RI2.step (q' := q') 7 (.agg #[.int .i64 x0, .int .i64 x1, .int .i64 x2, .int .i64 x3]) hBN hi rfl hA (by decide) hq hr' (by omega) hbz hN hX hXm hsz hcl hf hYm hk ⟨x0, x1, x2, x3, rfl⟩ (by first | (rw [← e1]; done) | (rw [← e1]; rfl))
          · have hA : l.getD 10 false = false := by
              cases hx : l.getD 10 false
              · rfl
              · have hx0 := hcl.dep (i := 10) rfl hx 9 (by kernel_rfl)
                have hx1 := hcl.dep (i := 9) rfl hx0 8 (by kernel_rfl)
                exact (not_done hl0 hx1).elim
            obtain ⟨c, e1⟩ : Ld (vs 5) := hf 5 (ready_dep hi rfl 5 (by kernel_rfl)) (fun _ => hA)
            obtain ⟨x0, x1, x2, x3, e2⟩ : Ag (vs 7) := hf 7 (ready_dep hi rfl 7 (by kernel_rfl)) (fun _ => hA)
            refine wpOp_step rfl (fun K hK => ?_)
            go_simp
            refine hK _ _ ?_
            exact RI2.step (q' := q) 8 (.agg #[.int .i64 c, .int .i64 x0, .int .i64 x1, .int .i64 x2, .int .i64 x3]) hBN hi rfl hA (by decide) hq hR (by omega) hbz hN hX hXm hsz hcl hf hYm (Beside.refl _ u) ⟨c, x0, x1, x2, x3, rfl⟩ (by first | (rw [← e1, ← e2]; done) | (rw [← e1, ← e2]; rfl))
          · have hA : l.getD 10 false = false := by
              cases hx : l.getD 10 false
              · rfl
              · have hx0 := hcl.dep (i := 10) rfl hx 9 (by kernel_rfl)
                exact (not_done hl0 hx0).elim
            obtain ⟨c, x0, x1, x2, x3, e1⟩ : A5 (vs 8) := hf 8 (ready_dep hi rfl 8 (by kernel_rfl)) (fun _ => hA)
            refine wpOp_step rfl (fun K hK => ?_)
            go_simp
            refine hK _ _ ?_
            exact RI2.step (q' := q) 9 (.slice (some ⟨u.heap.size, 0, none⟩) 1 1) hBN hi rfl hA (by decide) hq (hR.alloc _) (by omega) hbz hN hX hXm hsz hcl hf hYm (bes_alloc _ u _) (s1_new u _ _ _ _ _ _ hN) (by first | (rw [← e1]; done) | (rw [← e1]; rfl))
          · have hA : l.getD 10 false = false := by rw [Array.getD_eq_getD_getElem?, getD_false hl0]; rfl
            have e0 : vs 0 = .slice a L.length cap := hf 0 (ready_dep hi rfl 0 (by kernel_rfl)) (fun _ => hA)
            obtain ⟨b, c, x0, x1, x2, x3, e1, hbN, hbl, hbc⟩ : S1 u w2.heap.size (vs 9) := hf 9 (ready_dep hi rfl 9 (by kernel_rfl)) (fun _ => hA)
            have hgt : ∀ k, 10 < k → l.getD k false = false := fun k hk => by
              by_cases hk1 : k = 11
              · subst hk1
                cases hx : l.getD 11 false
                · rfl
                · exact (not_done hl0 (hcl.dep (i := 11) rfl hx 10 (by kernel_rfl))).elim
              · rw [Array.getD_eq_getD_getElem?, Array.getElem?_eq_none (by omega)]; rfl
            refine wpOp_step rfl (fun K hK => ?_)
            refine step_append_lies _ rfl (.tmp 22) (.tmp 31) 45 rfl w.heap.size 42 i0 _ 5 40 Tryz.underlying45 hi0 hz0 hz1 hz2 rfl (by omega) _ L.length (cellsL L) e0 (hX hA) ⟨b, 0, none⟩ 1 1 (cellsL [⟨c, ⟨x0, x1, x2, x3⟩⟩]) e1 (by rw [cellsL_length]; rfl) (by rw [cellsL_one]; exact World.news_of_block hbc) (one_cells _) (by omega) (by unfold maxLen; omega) (by omega) (Nat.le_trans hbz.size (Nat.le_refl _)) _ rfl ?_
            intro g0 cap0 w9 hown1 hgrow hat hlt1
            refine hK _ _ ?_
            have hrow : ∀ k, (Value.slice a L.length cap).ownBlock = some k → w.heap.size ≤ k := fun k hk => ((hX hA).lt k hk).1
            exact RI2.last (.slice (some ⟨g0, 0, none⟩) (L.length + 1) cap0) hi rfl (by decide) hgt hq (hR.grown hgrow (fun k hk => by have := hrow k hk; omega)) (hbz.grown hgrow hrow) (Nat.le_trans hN hgrow.size) hsz hcl rfl ⟨L ++ [⟨c, ⟨x0, x1, x2, x3⟩⟩], by rw [cellsL_append, List.length_append]; exact hown1, by simp; omega⟩ rfl
          · have hAt : l.getD 10 false = true := ready_dep hi rfl 10 (by kernel_rfl)
            have hy := hf 10 hAt (fun h => absurd h (by decide))
            refine wpOp_step rfl (fun K hK => ?_)
            go_simp
            refine hK _ _ ?_
            exact RI2.asg 11 (vs 10) hi rfl hAt (by decide) hq hR hbz hN hsz hcl hf rfl hy rfl
        · intro l b u hI hr
          obtain ⟨q, vs, rfl, hR, hq, hbz, hN, hX, hsz, hcl, hf⟩ := hI
          have hall := all_done (by kernel_rfl) hr hsz
          obtain ⟨L2, h1, h2⟩ := hf 11 (hall 11 (by decide)) (fun h => absurd h (by decide))
          exact ⟨rfl, q, vs, L2, rfl, hR, by omega, hbz, h1, h2⟩
      · rintro e b u ⟨rfl, q, vs, L2, rfl, hR, hq, hb, ho, hl⟩
        obtain ⟨a2, cap2, he, hout⟩ := out_of_owns ho (by omega)
        rw [he]
        have HO9 := Hid.mk' hout
        have HR9 := Hid.mk' hR
        clear ho hout he hR HR2 HB2 HO2
        go_wp2
        go_ret
        exact ⟨_, _, _, _, _, rfl, HO9.out.1, hl, HO9.out.2.2, by omega, HR9.out, hb⟩
    · have HZ := Hid.mk' hz
      have hzb : ((L.length : Int) == 0) = false := by simpa using hz
      clear hz
      go_wp2_with fail
      refine (pick_any w2 B _ 3 HR2.out (by omega) (by omega) (by omega)).mono ?_
      rintro e w3 ⟨x, rfl, x0, x1, hk⟩
      have HR3 := Hid.mk' (hk.rdr HR2.out)
      have HB3 := Hid.mk' (HB2.out.trans hk.beside)
      have HO3 := Hid.mk' (owns_beside HO2.out hk.beside hB)
      clear hk HR2 HB2 HO2
      by_cases hx : x = 0
      · subst hx
        go_wp2_with fail
        refine Code.wp_mono (Q := fun e b u => e = Exit.normal ∧ ∃ (q : Nat) (vs : Nat → Value) (L2 : List T), b = { tmps := #[Value.pointer (some ⟨B, 0, none⟩), Value.int IntKind.i64 n, undef, undef, vs 11, Value.slice a L.length cap, Value.pointer (some ⟨B, 0, none⟩), Value.slice a L.length cap, Value.pointer (some ⟨B, 0, none⟩), Value.int IntKind.i64 n, Value.int IntKind.i64 0, Value.bool false, undef, Value.bool true, Value.slice a L.length cap, Value.int IntKind.i64 (L.length : Int), Value.bool false, Value.bool false, Value.pointer (some ⟨B, 0, none⟩), Value.int IntKind.i64 0, Value.bool true, Value.bool true, vs 0, vs 1, vs 2, vs 3, vs 4, vs 5, vs 6, vs 7, vs 8, vs 9, vs 10, undef, undef, undef, undef, undef, undef, undef, undef, undef, undef, undef, undef, undef, undef, undef, undef, undef, undef, undef], defers := [] } ∧ Rdr u B q ∧ q ≤ q1 + 1 + 1 + 360 ∧ Beside B w u ∧ u.ownsRow w.heap.size 42 5 (vs 11) L2.length (cellsL L2) ∧ L2.length ≤ 5) ?_ ?_
        rotate_left
        · have hBN : B < w3.heap.size := HR3.out.lt
          refine wp_region_ri2 (fun vs : Nat → Value => ({ tmps := #[Value.pointer (some ⟨B, 0, none⟩), Value.int IntKind.i64 n, undef, undef, vs 11, Value.slice a L.length cap, Value.pointer (some ⟨B, 0, none⟩), Value.slice a L.length cap, Value.pointer (some ⟨B, 0, none⟩), Value.int IntKind.i64 n, Value.int IntKind.i64 0, Value.bool false, undef, Value.bool true, Value.slice a L.length cap, Value.int IntKind.i64 (L.length : Int), Value.bool false, Value.bool false, Value.pointer (some ⟨B, 0, none⟩), Value.int IntKind.i64 0, Value.bool true, Value.bool true, vs 0, vs 1, vs 2, vs 3, vs 4, vs 5, vs 6, vs 7, vs 8, vs 9, vs 10, undef, undef, undef, undef, undef, undef, undef, undef, undef, undef, undef, undef, undef, undef, undef, undef, undef, undef, undef], defers := [] } : Act)) (fun k => match k with | 0 => SK2.is (.slice a L.length cap) | 1 => SK2.old (SK.sl 4) | 2 => SK2.old SK.rd | 3 => SK2.old (SK.pk 4) | 4 => SK2.old SK.ix | 5 => SK2.old SK.ld | 6 => SK2.old SK.rd | 7 => SK2.old SK.ag | 8 => SK2.a5 | 9 => SK2.s1 | 10 => SK2.own | 11 => SK2.own | _ => SK2.own) 12 10 B (q1 + 1 + 1) w3.heap.size (fun u => u.ownsRow w.heap.size 42 5 (.slice a L.length cap) L.length (cellsL L)) (fun u v => ∃ L2, u.ownsRow w.heap.size 42 5 v L2.length (cellsL L2) ∧ L2.length ≤ 5) w (by kernel_rfl) ?_ ?_ ?_
          · exact RI2.start (fun k => if k = 11 then .slice none 0 0 else undef) rfl HR3.out HB3.out (Nat.le_refl _) (owns_below HO3.out (Below.refl _ _).drew)
          · intro l b u hI i hi
            obtain ⟨q, vs, rfl, hR, hq, hbz, hN, hX, hsz, hcl, hf⟩ := hI
            have hl0 := (mem_ready.1 hi).1
            have hund1 : 1 ≤ undone l := by have := undone_set (getD_false hl0); omega
            have hXm : ∀ u u' : World, u.ownsRow w.heap.size 42 5 (.slice a L.length cap) L.length (cellsL L) → Beside B u u' → u'.ownsRow w.heap.size 42 5 (.slice a L.length cap) L.length (cellsL L) := fun u u' h hb => owns_beside h hb hB
            have hYm : ∀ (u u' : World) (v : Value), (∃ L2, u.ownsRow w.heap.size 42 5 v L2.length (cellsL L2) ∧ L2.length ≤ 5) → Beside B u u' → (∃ L2, u'.ownsRow w.heap.size 42 5 v L2.length (cellsL L2) ∧ L2.length ≤ 5) := fun u u' v h hb => by obtain ⟨L2, h1, h2⟩ := h; exact ⟨L2, owns_beside h1 hb hB, h2⟩
            have hi12 : i < 12 := by
              obtain ⟨_, o, ho, _⟩ := mem_ready.1 hi
              exact (Array.getElem?_eq_some_iff.1 ho).1
            rcases (show i = 0 ∨ i = 1 ∨ i = 2 ∨ i = 3 ∨ i = 4 ∨ i = 5 ∨ i = 6 ∨ i = 7 ∨ i = 8 ∨ i = 9 ∨ i = 10 ∨ i = 11 from by omega) with rfl | rfl | rfl | rfl | rfl | rfl | rfl | rfl | rfl | rfl | rfl | rfl
            · have hA : l.getD 10 false = false := by
                cases hx : l.getD 10 false
                · rfl
                · have hx0 := hcl.dep (i := 10) rfl hx 0 (by kernel_rfl)
                  exact (not_done hl0 hx0).elim
              refine wpOp_step rfl (fun K hK => ?_)
              go_simp
              refine hK _ _ ?_
              exact RI2.step (q' := q) 0 (.slice a L.length cap) hBN hi rfl hA (by decide) hq hR (by omega) hbz hN hX hXm hsz hcl hf hYm (Beside.refl _ u) rfl rfl
            · have hA : l.getD 10 false = false := by
                cases hx : l.getD 10 false
                · rfl
                · have hx0 := hcl.dep (i := 10) rfl hx 9 (by kernel_rfl)
                  have hx1 := hcl.dep (i := 9) rfl hx0 8 (by kernel_rfl)
                  have hx2 := hcl.dep (i := 8) rfl hx1 5 (by kernel_rfl)
                  have hx3 := hcl.dep (i := 5) rfl hx2 4 (by kernel_rfl)
                  have hx4 := hcl.dep (i := 4) rfl hx3 1 (by kernel_rfl)
                  exact (not_done hl0 hx4).elim
              refine wpOp_step rfl (fun K hK => ?_)
              go_simp
              refine hK _ _ ?_
              exact RI2.step (q' := q) 1 (.slice (some ⟨u.heap.size, 0, none⟩) 4 4) hBN hi rfl hA (by decide) hq (hR.alloc _) (by omega) hbz hN hX hXm hsz hcl hf hYm (bes_alloc _ u _) (sl_new4 u _ _ _ _ _ _ hN) rfl
            · have hA : l.getD 10 false = false := by
                cases hx : l.getD 10 false
                · rfl
                · have hx0 := hcl.dep (i := 10) rfl hx 9 (by kernel_rfl)
                  have hx1 := hcl.dep (i := 9) rfl hx0 8 (by kernel_rfl)
                  have hx2 := hcl.dep (i := 8) rfl hx1 5 (by kernel_rfl)
                  have hx3 := hcl.dep (i := 5) rfl hx2 4 (by kernel_rfl)
                  have hx4 := hcl.dep (i := 4) rfl hx3 3 (by kernel_rfl)
                  have hx5 := hcl.dep (i := 3) rfl hx4 2 (by kernel_rfl)
                  exact (not_done hl0 hx5).elim
              refine wpOp_step rfl (fun K hK => ?_)
              go_simp
              refine hK _ _ ?_
              exact RI2.step (q' := q) 2 (.pointer (some ⟨B, 0, none⟩)) hBN hi rfl hA (by decide) hq hR (by omega) hbz hN hX hXm hsz hcl hf hYm (Beside.refl _ u) rfl rfl
            · have hA : l.getD 10 false = false := by
                cases hx : l.getD 10 false
                · rfl
                · have hx0 := hcl.dep (i := 10) rfl hx 9 (by kernel_rfl)
                  have hx1 := hcl.dep (i := 9) rfl hx0 8 (by kernel_rfl)
                  have hx2 := hcl.dep (i := 8) rfl hx1 5 (by kernel_rfl)
                  have hx3 := hcl.dep (i := 5) rfl hx2 4 (by kernel_rfl)
                  have hx4 := hcl.dep (i := 4) rfl hx3 3 (by kernel_rfl)
                  exact (not_done hl0 hx4).elim
              have e1 : vs 2 = .pointer (some ⟨B, 0, none⟩) := hf 2 (ready_dep hi rfl 2 (by kernel_rfl)) (fun _ => hA)
              refine wpOp_step rfl (fun K hK => ?_)
              go_simp
              refine (pick_any u _ q 4 hR (by omega) (by omega) (by omega)).mono ?_
              rintro e u' ⟨x, rfl, x0, x1, hk⟩
              refine hK _ _ ?_
              exact RI2.step (q' := q + 1) 3 (.int .i64 x) hBN hi rfl hA (by decide) hq (hk.rdr hR) (by omega) hbz hN hX hXm hsz hcl hf hYm hk.beside ⟨x.toNat, by omega, by rw [Int.toNat_of_nonneg x0]⟩ (by first | (rw [← e1]; done) | (rw [← e1]; rfl))
            · have hA : l.getD 10 false = false := by
                cases hx : l.getD 10 false
                · rfl
                · have hx0 := hcl.dep (i := 10) rfl hx 9 (by kernel_rfl)
                  have hx1 := hcl.dep (i := 9) rfl hx0 8 (by kernel_rfl)
                  have hx2 := hcl.dep (i := 8) rfl hx1 5 (by kernel_rfl)
                  have hx3 := hcl.dep (i := 5) rfl hx2 4 (by kernel_rfl)
                  exact (not_done hl0 hx3).elim
              obtain ⟨b, e1, hb, hcb⟩ : Sl u w3.heap.size 4 (vs 1) := hf 1 (ready_dep hi rfl 1 (by kernel_rfl)) (fun _ => hA)
              obtain ⟨j, hj, e2⟩ : Pk 4 (vs 3) := hf 3 (ready_dep hi rfl 3 (by kernel_rfl)) (fun _ => hA)
              obtain ⟨x, hx⟩ := hcb j hj
              have hji : (j : Int) < 4 := by omega
              clear hcb
              refine wpOp_step rfl (fun K hK => ?_)
              go_simp
              refine hK _ _ ?_
              exact RI2.step (q' := q) 4 (.pointer (some ⟨b, j, none⟩)) hBN hi rfl hA (by decide) hq hR (by omega) hbz hN hX hXm hsz hcl hf hYm (Beside.refl _ u) ⟨b, j, x, rfl, hb, hx⟩ (by first | (rw [← e1, ← e2]; done) | (rw [← e1, ← e2]; rfl))
            · have hA : l.getD 10 false = false := by
                cases hx : l.getD 10 false
                · rfl
                · have hx0 := hcl.dep (i := 10) rfl hx 9 (by kernel_rfl)
                  have hx1 := hcl.dep (i := 9) rfl hx0 8 (by kernel_rfl)
                  have hx2 := hcl.dep (i := 8) rfl hx1 5 (by kernel_rfl)
                  exact (not_done hl0 hx2).elim
              obtain ⟨b, j, x, e1, hb, hx⟩ : Ix u w3.heap.size (vs 4) := hf 4 (ready_dep hi rfl 4 (by kernel_rfl)) (fun _ => hA)
              refine wpOp_step rfl (fun K hK => ?_)
              go_simp
              refine hK _ _ ?_
              exact RI2.step (q' := q) 5 (.int .i64 x) hBN hi rfl hA (by decide) hq hR (by omega) hbz hN hX hXm hsz hcl hf hYm (Beside.refl _ u) ⟨x, rfl⟩ (by first | (rw [← e1]; done) | (rw [← e1]; rfl))
            · have hA : l.getD 10 false = false := by
                cases hx : l.getD 10 false
                · rfl
                · have hx0 := hcl.dep (i := 10) rfl hx 9 (by kernel_rfl)
                  have hx1 := hcl.dep (i := 9) rfl hx0 8 (by kernel_rfl)
                  have hx2 := hcl.dep (i := 8) rfl hx1 7 (by kernel_rfl)
                  have hx3 := hcl.dep (i := 7) rfl hx2 6 (by kernel_rfl)
                  exact (not_done hl0 hx3).elim
              refine wpOp_step rfl (fun K hK => ?_)
              go_simp
              refine hK _ _ ?_
              exact RI2.step (q' := q) 6 (.pointer (some ⟨B, 0, none⟩)) hBN hi rfl hA (by decide) hq hR (by omega) hbz hN hX hXm hsz hcl hf hYm (Beside.refl _ u) rfl rfl
            · have hA : l.getD 10 false = false := by
                cases hx : l.getD 10 false
                · rfl
                · have hx0 := hcl.dep (i := 10) rfl hx 9 (by kernel_rfl)
                  have hx1 := hcl.dep (i := 9) rfl hx0 8 (by kernel_rfl)
                  have hx2 := hcl.dep (i := 8) rfl hx1 7 (by kernel_rfl)
                  exact (not_done hl0 hx2).elim
              have e1 : vs 6 = .pointer (some ⟨B, 0, none⟩) := hf 6 (ready_dep hi rfl 6 (by kernel_rfl)) (fun _ => hA)
              refine wpOp_step rfl (fun K hK => ?_)
              go_simp
              refine (mon_any u _ q 2 hR (by omega) (by omega) (by omega)).mono ?_
              rintro e u' ⟨x0, x1, x2, x3, q', rfl, hq', hr', hk⟩
              refine hK _ _ ?_
              exact RI2.step (q' := q') 7 (.agg #[.int .i64 x0, .int .i64 x1, .int .i64 x2, .int .i64 x3]) hBN hi rfl hA (by decide) hq hr' (by omega) hbz hN hX hXm hsz hcl hf hYm hk ⟨x0, x1, x2, x3, rfl⟩ (by first | (rw [← e1]; done) | (rw [← e1]; rfl))
            · have hA : l.getD 10 false = false := by
                cases hx : l.getD 10 false
                · rfl
                · have hx0 := hcl.dep (i := 10) rfl hx 9 (by kernel_rfl)
                  have hx1 := hcl.dep (i := 9) rfl hx0 8 (by kernel_rfl)
                  exact (not_done hl0 hx1).elim
              obtain ⟨c, e1⟩ : Ld (vs 5) := hf 5 (ready_dep hi rfl 5 (by kernel_rfl)) (fun _ => hA)
              obtain ⟨x0, x1, x2, x3, e2⟩ : Ag (vs 7) := hf 7 (ready_dep hi rfl 7 (by kernel_rfl)) (fun _ => hA)
              refine wpOp_step rfl (fun K hK => ?_)
              go_simp
              refine hK _ _ ?_
              exact RI2.step (q' := q) 8 (.agg #[.int .i64 c, .int .i64 x0, .int .i64 x1, .int .i64 x2, .int .i64 x3]) hBN hi rfl hA (by decide) hq hR (by omega) hbz hN hX hXm hsz hcl hf hYm (Beside.refl _ u) ⟨c, x0, x1, x2, x3, rfl⟩ (by first | (rw [← e1, ← e2]; done) | (rw [← e1, ← e2]; rfl))
            · have hA : l.getD 10 false = false := by
                cases hx : l.getD 10 false
                · rfl
                · have hx0 := hcl.dep (i := 10) rfl hx 9 (by kernel_rfl)
                  exact (not_done hl0 hx0).elim
              obtain ⟨c, x0, x1, x2, x3, e1⟩ : A5 (vs 8) := hf 8 (ready_dep hi rfl 8 (by kernel_rfl)) (fun _ => hA)
              refine wpOp_step rfl (fun K hK => ?_)
              go_simp
              refine hK _ _ ?_
              exact RI2.step (q' := q) 9 (.slice (some ⟨u.heap.size, 0, none⟩) 1 1) hBN hi rfl hA (by decide) hq (hR.alloc _) (by omega) hbz hN hX hXm hsz hcl hf hYm (bes_alloc _ u _) (s1_new u _ _ _ _ _ _ hN) (by first | (rw [← e1]; done) | (rw [← e1]; rfl))
            · have hA : l.getD 10 false = false := by rw [Array.getD_eq_getD_getElem?, getD_false hl0]; rfl
              have e0 : vs 0 = .slice a L.length cap := hf 0 (ready_dep hi rfl 0 (by kernel_rfl)) (fun _ => hA)
              obtain ⟨b, c, x0, x1, x2, x3, e1, hbN, hbl, hbc⟩ : S1 u w3.heap.size (vs 9) := hf 9 (ready_dep hi rfl 9 (by kernel_rfl)) (fun _ => hA)
              have hgt : ∀ k, 10 < k → l.getD k false = false := fun k hk => by
                by_cases hk1 : k = 11
                · subst hk1
                  cases hx : l.getD 11 false
                  · rfl
                  · exact (not_done hl0 (hcl.dep (i := 11) rfl hx 10 (by kernel_rfl))).elim
                · rw [Array.getD_eq_getD_getElem?, Array.getElem?_eq_none (by omega)]; rfl
              refine wpOp_step rfl (fun K hK => ?_)
              refine step_append_lies _ rfl (.tmp 22) (.tmp 31) 45 rfl w.heap.size 42 i0 _ 5 40 Tryz.underlying45 hi0 hz0 hz1 hz2 rfl (by omega) _ L.length (cellsL L) e0 (hX hA) ⟨b, 0, none⟩ 1 1 (cellsL [⟨c, ⟨x0, x1, x2, x3⟩⟩]) e1 (by rw [cellsL_length]; rfl) (by rw [cellsL_one]; exact World.news_of_block hbc) (one_cells _) (by omega) (by unfold maxLen; omega) (by omega) (Nat.le_trans hbz.size (Nat.le_refl _)) _ rfl ?_
              intro g0 cap0 w9 hown1 hgrow hat hlt1
              refine hK _ _ ?_
              have hrow : ∀ k, (Value.slice a L.length cap).ownBlock = some k → w.heap.size ≤ k := fun k hk => ((hX hA).lt k hk).1
              exact RI2.last (.slice (some ⟨g0, 0, none⟩) (L.length + 1) cap0) hi rfl (by decide) hgt hq (hR.grown hgrow (fun k hk => by have := hrow k hk; omega)) (hbz.grown hgrow hrow) (Nat.le_trans hN hgrow.size) hsz hcl rfl ⟨L ++ [⟨c, ⟨x0, x1, x2, x3⟩⟩], by rw [cellsL_append, List.length_append]; exact hown1, by simp; omega⟩ rfl
            · have hAt : l.getD 10 false = true := ready_dep hi rfl 10 (by kernel_rfl)
              have hy := hf 10 hAt (fun h => absurd h (by decide))
              refine wpOp_step rfl (fun K hK => ?_)
              go_simp
              refine hK _ _ ?_
              exact RI2.asg 11 (vs 10) hi rfl hAt (by decide) hq hR hbz hN hsz hcl hf rfl hy rfl
          · intro l b u hI hr
            obtain ⟨q, vs, rfl, hR, hq, hbz, hN, hX, hsz, hcl, hf⟩ := hI
            have hall := all_done (by kernel_rfl) hr hsz
            obtain ⟨L2, h1, h2⟩ := hf 11 (hall 11 (by decide)) (fun h => absurd h (by decide))
            exact ⟨rfl, q, vs, L2, rfl, hR, by omega, hbz, h1, h2⟩
        · rintro e b u ⟨rfl, q, vs, L2, rfl, hR, hq, hb, ho, hl⟩
          obtain ⟨a2, cap2, he, hout⟩ := out_of_owns ho (by omega)
          rw [he]
          have HO9 := Hid.mk' hout
          have HR9 := Hid.mk' hR
          clear ho hout he hR HR3 HB3 HO3
          go_wp2
          go_ret
          exact ⟨_, _, _, _, _, rfl, HO9.out.1, hl, HO9.out.2.2, by omega, HR9.out, hb⟩
      · have hxb : (x == 0) = false := by simp [hx]
        go_wp2_with fail
        refine (pick_any w3 B _ 2 HR3.out (by omega) (by omega) (by omega)).mono ?_
        rintro e w4 ⟨y, rfl, y0, y1, hk⟩
        have HR4 := Hid.mk' (hk.rdr HR3.out)
        have HB4 := Hid.mk' (HB3.out.trans hk.beside)
        have HO4 := Hid.mk' (owns_beside HO3.out hk.beside hB)
        clear hk HR3 HB3 HO3
        obtain ⟨a', cap', he, ho⟩ := out_of_owns HO4.out (by omega)
        cases he
        have hL0 : 0 < L.length := by have := HZ.out; omega
        have hcap : L.length ≤ cap := ho.1.1
        have hblk : ∃ b off, a = some ⟨b, off, none⟩ := by
          rcases ho.1.2.2 with h0 | ⟨b, off, he, _, _⟩
          · omega
          · exact ⟨b, off, he⟩
        obtain ⟨b, off, rfl⟩ := hblk
        have HRD := Hid.mk' ho.1
        have HU := Hid.mk' (ho.2.2)
        clear ho
        by_cases hy : y = 0
        · subst hy
          have HO5 := Hid.mk' (owns_none w4 w.heap.size HB4.out.size)
          have HN := Hid.mk' ((HRD.out.below (bel_one w4 (.cells #[] 42))).news)
          have HB5 := Hid.mk' (HB4.out.alloc (.cells #[] 42))
          have HR5 := Hid.mk' (HR4.out.alloc (.cells #[] 42))
          have hs5 : w.heap.size ≤ (w4.alloc (.cells #[] 42)).heap.size := HB5.out.size
          go_wp2_with (at_builtin; refine wpList_append_lies _ rfl (.tmp 37) (.tmp 38) 45 rfl w.heap.size 42 i0 _ 5 40 Tryz.underlying45 hi0 hz0 hz1 hz2 rfl (by omega) _ 0 (cellsL []) rfl (HO5.out) ⟨b, off, none⟩ L.length cap (cellsL L) rfl (by simp [cellsL_length]) (HN.out) (all_cells L) (by omega) (by unfold maxLen; omega) (by omega) (hs5) _ rfl ?_; intro g0 cap0 w9 hown1 hgrow hat hlt1)
          have HR6 := Hid.mk' (HR5.out.grown hgrow (fun k hk => by cases hk; exact Nat.lt_of_lt_of_le hB HB4.out.size))
          have HB6 := Hid.mk' (HB5.out.grown hgrow (fun k hk => by cases hk; exact HB4.out.size))
          obtain ⟨a6, cap6, he, ho⟩ := out_of_owns (w := w9) (lo := w.heap.size) (v := .slice (some ⟨g0, 0, none⟩) L.length cap0) (L := L) (by simpa [cellsL] using hown1) (by omega)
          simp only [Value.slice.injEq] at he
          obtain ⟨rfl, _, rfl⟩ := he
          have hg0 : w.heap.size ≤ g0 := by
            rcases ho.2.2 with h | ⟨g, off2, he, hg⟩
            · omega
            · cases he; exact hg
          rcases ho.2.1 with h0 | ⟨g, off2, N, F, he, hrw, hN, hF⟩
          · omega
          cases he
          simp only [Nat.zero_add] at hN hF
          have hcap6 : L.length ≤ cap0 := ho.1.1
          have HRW := Hid.mk' hrw
          have HF := Hid.mk' hF
          clear ho hrw hF hown1 hgrow hat hlt1 HO5 HN HB5 HR5
          refine (mon_any w9 B _ 1 HR6.out (by omega) (by omega) (by omega)).mono ?_
          rintro e w10 ⟨m1, m2, m3, m4, q6, rfl, hq6, r6, s6⟩
          have HR7 := Hid.mk' r6
          have HB7 := Hid.mk' (HB6.out.trans s6)
          have hrw := HRW.out.of_block (s6.block g0 HRW.out.lt (by omega))
          have HR8 := Hid.mk' hrw
          have k1 := hrw.cell (i := 1) (by omega)
          have k2 := hrw.cell (i := 2) (by omega)
          have k3 := hrw.cell (i := 3) (by omega)
          have k4 := hrw.cell (i := 4) (by omega)
          have f1 := hrw.frozen 1
          have f2 := hrw.frozen 2
          have f3 := hrw.frozen 3
          have f4 := hrw.frozen 4
          have hL0' : (0 : Int) < (L.length : Int) := by omega
          clear r6 s6 hrw HR6 HB6 HRW
          go_wp2
          go_ret
          exact ⟨_, _, _, _, q6, rfl, set_first (f := lf L) HR8.out hL0 hN HF.out hcap6 (by omega), by omega, .inr ⟨g0, 0, rfl, hg0⟩, by omega, (((HR7.out.set (by omega)).set (by omega)).set (by omega)).set (by omega), (((HB7.out.set hg0).set hg0).set hg0).set hg0⟩
        · have hyb : (y == 0) = false := by simp [hy]
          rcases HRD.out.2.2 with h0 | ⟨b', off', he, hblt, hcl⟩
          · omega
          cases he
          obtain ⟨c0, c1, c2, c3, c4⟩ := hcl 0 (by omega)
          simp only [Nat.zero_mul, Nat.add_zero] at c0 c1 c2 c3 c4
          have HB5 := Hid.mk' (HB4.out.alloc (.cells #[.int .i64 (lf L 0).c, .int .i64 (lf L 0).m.x, .int .i64 (lf L 0).m.y, .int .i64 (lf L 0).m.d, .int .i64 (lf L 0).m.e] 42))
          have hs5 : w.heap.size ≤ (w4.alloc (.cells #[.int .i64 (lf L 0).c, .int .i64 (lf L 0).m.x, .int .i64 (lf L 0).m.y, .int .i64 (lf L 0).m.d, .int .i64 (lf L 0).m.e] 42)).heap.size := HB5.out.size
          have HO5 := Hid.mk' (HO4.out.alloc (.cells #[.int .i64 (lf L 0).c, .int .i64 (lf L 0).m.x, .int .i64 (lf L 0).m.y, .int .i64 (lf L 0).m.d, .int .i64 (lf L 0).m.e] 42))
          have HR5 := Hid.mk' (HR4.out.alloc (.cells #[.int .i64 (lf L 0).c, .int .i64 (lf L 0).m.x, .int .i64 (lf L 0).m.y, .int .i64 (lf L 0).m.d, .int .i64 (lf L 0).m.e] 42))
          clear hcl
          go_wp2_with (at_builtin; refine wpList_append_lies _ rfl (.tmp 46) (.tmp 50) 45 rfl w.heap.size 42 i0 _ 5 40 Tryz.underlying45 hi0 hz0 hz1 hz2 rfl (by omega) _ L.length (cellsL L) rfl (HO5.out) ⟨w4.heap.size, 0, none⟩ 1 1 (cellsL [lf L 0]) rfl (by simp [cellsL_length]) (by rw [cellsL_one]; exact World.news_of_block (heap_alloc_new w4 _)) (one_cells _) (by omega) (by unfold maxLen; omega) (by omega) (hs5) _ rfl ?_; intro g0 cap0 w9 hown1 hgrow hat hlt1)
          have hrow : ∀ k, (Value.slice (some ⟨b, off, none⟩) L.length cap).ownBlock = some k → w.heap.size ≤ k := fun k hk => (HO4.out.lt k hk).1
          have HR6 := Hid.mk' (HR5.out.grown hgrow (fun k hk => by have := hrow k hk; omega))
          have HB6 := Hid.mk' (HB5.out.grown hgrow hrow)
          have hout := out_of_owns (L := L ++ [lf L 0]) (by rw [cellsL_append, List.length_append]; exact hown1) (by simp; omega)
          go_ret
          obtain ⟨a6, cap6, he, ho⟩ := hout
          simp only [Value.slice.injEq] at he
          obtain ⟨rfl, _, rfl⟩ := he
          exact ⟨_, _, _, lf (L ++ [lf L 0]), _, rfl, by have := ho.1; simpa using this, by omega, by
            rcases ho.2.2 with h | h
            · simp at h
            · exact .inr h, by omega, HR6.out, HB6.out⟩
end Go.Proofs.YtdidlcjhodejjaaGreat
namespace Go.Proofs.YtdidlcjhodejjaaGreat
open Go.RowKit Go.Deep Go.Joins
set_option linter.unusedVariables false

theorem fr_beside {B : Nat} {w w' : World} (h : Beside B w w') : Fr (fun k => k = B) w w' := ⟨h.os, h.tape, h.output, h.size, fun k hk hn => h.block k hk hn⟩
theorem RSo.beside {B : Nat} {w w' : World} {a : Option Addr} {g c : Nat} {ad : Nat → Option Addr} {cp : Nat → Nat} {Q : Nat → List T} (h : RSo (fun b => b ≠ B) w a g c ad cp Q) (hb : Beside B w w') : RSo (fun b => b ≠ B) w' a g c ad cp Q := h.fr (fr_beside hb) (fun b hn e => hn e)
theorem RSo.below {N : Nat → Prop} {w w' : World} {a : Option Addr} {g c : Nat} {ad : Nat → Option Addr} {cp : Nat → Nat} {Q : Nat → List T} (h : RSo N w a g c ad cp Q) (hb : Below w.heap.size w w') : RSo N w' a g c ad cp Q := h.fr (P := fun _ => False) (Fr.of_below hb) (fun _ _ q => q)
/-- a drawn list lies apart from the reader. -/
theorem rso_list {w : World} {B lo lo' : Nat} {g' : Option Nat} {v : Value} {LS : List Value} (h : w.ownsRow lo 45 1 v LS.length LS) (hE : ∀ e ∈ LS, El w lo' g' e) (hl : LS.length ≤ 100) (h1 : B < lo) (h2 : B < lo') : ∃ a c ad cp L, v = .slice a LS.length c ∧ RSo (fun b => b ≠ B) w a LS.length c ad cp L := by
  have each : ∀ i, i < LS.length → ∃ t : (Option Addr × Nat) × List T, LS[i]? = some (.slice t.1.1 t.2.length t.1.2) ∧ RL w t.1.1 t.1.2 t.2 ∧ (t.2.length = 0 ∨ ∀ b off, t.1.1 = some ⟨b, off, none⟩ → b ≠ B) := fun i hi => by
    obtain ⟨a, n, c, f, e, hr, _, hb⟩ := hE (LS[i]) (List.getElem_mem hi)
    obtain ⟨X, rfl, hX⟩ := list_of hr
    exact ⟨((a, c), X), by rw [List.getElem?_eq_getElem hi, e], hX, hb.imp id (fun ⟨b, off, e1, hlo, _⟩ b' off' e2 => by rw [e1] at e2; cases e2; omega)⟩
  haveI : Inhabited ((Option Addr × Nat) × List T) := ⟨((none, 0), [])⟩
  obtain ⟨q, hq⟩ := choose_lt each
  rcases h.2 with ⟨hv, h0⟩ | ⟨b, cap, cur, hv, hlo, hg, hnc, _⟩
  · exact ⟨none, 0, fun i => (q i).1.1, fun i => (q i).1.2, fun i => (q i).2, by rw [hv, h0], ⟨by omega, by omega, .inl h0, fun i hi => (hq i hi).2.1⟩, .inl h0, fun i hi => (hq i hi).2.2⟩
  · have hr := h
    rw [hv] at hr
    refine ⟨some ⟨b, 0, none⟩, cap, fun i => (q i).1.1, fun i => (q i).1.2, fun i => (q i).2, hv, ⟨hnc, by omega, .inr ⟨b, 0, rfl, (hr.lt b rfl).2, fun i hi => ?_⟩, fun i hi => (hq i hi).2.1⟩, .inr (fun b' off' e => ?_), fun i hi => (hq i hi).2.2⟩
    · rw [Nat.zero_add, hr.cellAt i (by omega), (hq i hi).1]
    · cases e; omega
/-- so does the list of a basis that was made behind it. -/
theorem rso_base {Y : Nat → Prop} {w : World} {lo : Nat} {tvL tvP : Value} {g nL : Nat} {L : Nat → List T} {nP : Nat} {Q : Nat → Nat → List T} {LS PS : List Value} (h : BsW Y w lo tvL tvP g nL L nP Q LS PS) (hn : nL ≤ 100) {B : Nat} (hB : Y B) : ∃ a c ad cp, tvL = .slice a nL c ∧ RSo (fun b => b ≠ B) w a nL c ad cp L := by
  have each : ∀ i, i < nL → ∃ t : Option Addr × Nat, LS[i]? = some (.slice t.1 (L i).length t.2) ∧ RLo (NB Y tvL tvP) w t.1 t.2 (L i) := fun i hi => by
    obtain ⟨a, c, e, hr⟩ := h.eL i hi
    exact ⟨(a, c), e, hr⟩
  haveI : Inhabited (Option Addr × Nat) := ⟨(none, 0)⟩
  obtain ⟨q, hq⟩ := choose_lt each
  have el : ∀ i, i < nL → (L i).length = 0 ∨ ∀ b off, (q i).1 = some ⟨b, off, none⟩ → b ≠ B := fun i hi => ((hq i hi).2.2).imp id (fun k b off e q' => (k b off e).2.2 (by rw [q']; exact hB))
  rcases h.rL.2 with ⟨hv, h0⟩ | ⟨b, cap, cur, hv, hlo, hg, hnc, _⟩
  · exact ⟨none, 0, fun i => (q i).1, fun i => (q i).2, by rw [hv, h0], ⟨by omega, by omega, .inl h0, fun i hi => (hq i hi).2.1⟩, .inl h0, el⟩
  · have hr := h.rL
    rw [hv] at hr
    refine ⟨some ⟨b, 0, none⟩, cap, fun i => (q i).1, fun i => (q i).2, hv, ⟨hnc, by omega, .inr ⟨b, 0, rfl, (hr.lt b rfl).2, fun i hi => ?_⟩, fun i hi => (hq i hi).2.1⟩, .inr (fun b' off' e q' => ?_), el⟩
    · rw [Nat.zero_add, hr.cellAt i (by omega), (hq i hi).1]
    · cases e
      exact (h.nL b (by rw [hv]; rfl)).2 (by rw [q']; exact hB)
def BaseP (w : World) (B p : Nat) (e : Ending) (w' : World) : Prop := ∃ (o : Int) (a : Option Addr) (n c : Nat) (ad : Nat → Option Addr) (cp : Nat → Nat) (L : Nat → List T) (q : Nat), e = .returned (.tuple #[.int .i64 o, .slice a n c]) ∧ RSo (fun b => b ≠ B) w' a n c ad cp L ∧ n ≤ 12 ∧ q ≤ p + 1010 ∧ Rdr w' B q ∧ Beside B w w'
theorem grbMake_m {o : Int} {n : Nat} {L : Nat → List T} {fuel : Int} : (grbMake o n L fuel).1.m ≤ 12 := by
  obtain ⟨B, d, h⟩ : ∃ B d, grbMake o n L fuel = (B, d) := ⟨_, _, rfl⟩
  rw [h]
  rcases grbMake_mk h with ⟨h0, _⟩ | ⟨_, j, hm, _⟩
  · show B.m ≤ 12; omega
  · exact (lstOk_all hm.ok.l).1
set_option maxRecDepth 100000 in
set_option maxHeartbeats 4000000 in
theorem base_any (w : World) (B p : Nat) (h : Rdr w B p) (hp : p ≤ 700) :
    Calls Tryz.prog 59 #[.pointer (some ⟨B, 0, none⟩)] w (BaseP w B p) := by
  have hB := h.lt
  go_enter Tryz.func59, Tryz.ntmps59
  go_wp2_with fail
  refine (order_any w _ _ h (by omega)).mono ?_
  rintro e w2 ⟨o, rfl, hR2, s2⟩
  have hs2 := s2.size
  have HS2 := Hid.mk' s2
  clear h s2
  go_wp2_with fail
  refine (list_any w2 _ _ 2 24 hR2 (by omega) (by omega) (by omega) (by omega) (by omega)).mono ?_
  rintro e w4 ⟨v, LS, q', rfl, ho, hlen, hE, hq', hR4, s4⟩
  obtain ⟨aa, ca, ada, cpa, L, rfl, hra⟩ := rso_list (B := B) ho hE (by omega) (by omega) (by omega)
  have hs4 := s4.size
  have HS4 := Hid.mk' (HS2.out.trans s4)
  have HRA := Hid.mk' hra
  have HR4 := Hid.mk' hR4
  clear hR2 hR4 s4 hra ho hE HS2
  go_wp2_with fail
  refine (grbMakeS w4 o aa LS.length ca ada cpa L HRA.out.1 60).mono ?_
  have hm12 := grbMake_m (o := o) (n := LS.length) (L := L) (fuel := 60)
  obtain ⟨X, d, hX⟩ : ∃ X d, grbMake o LS.length L 60 = (X, d) := ⟨_, _, rfl⟩
  rw [hX] at hm12 ⊢
  rintro e w5 ⟨tvL, tvP, LS5, PS5, rfl, hb5, hk5⟩
  have hm12' : X.m ≤ 12 := hm12
  obtain ⟨la, lc, lad, lcp, rfl, hrl⟩ := rso_base hk5 (show X.m ≤ 100 by omega) (B := B) (show B < w4.heap.size by omega)
  obtain ⟨pa, pc, pA, pC, pAD, pCP, rfl, _⟩ := hk5.readP (show X.m ≤ 100 by omega)
  have hs5 := hb5.size
  have HRA5 := Hid.mk' (HRA.out.below hb5)
  have HRL5 := Hid.mk' hrl
  have HR5 := Hid.mk' (HR4.out.grown (below_grown hb5 none) (fun _ e => by cases e))
  have HS5 : Hid (Beside B w w5) := HS4.out.trans ⟨hb5.os, hb5.tape, hb5.output, hb5.size, fun k hk _ => hb5.block k hk⟩
  have hBw : B < w5.heap.size := by omega
  clear HRA HR4 HS4 hb5 hk5 hrl hX hm12
  -- the basis's box
  have bx := bel_one w5 (.cells #[.slice la X.m lc, .slice pa X.m pc, .bool d] 77)
  have HX6 := Hid.mk' (Own3.box w5 77 (.slice la X.m lc) (.slice pa X.m pc) (.bool d))
  have HR6 := Hid.mk' (HR5.out.alloc (.cells #[.slice la X.m lc, .slice pa X.m pc, .bool d] 77))
  have HRA6 := Hid.mk' (HRA5.out.below bx)
  have HRL6 := Hid.mk' (HRL5.out.below bx)
  have HS6 := Hid.mk' (HS5.out.alloc (.cells #[.slice la X.m lc, .slice pa X.m pc, .bool d] 77))
  clear HRA5 HRL5 HR5 HS5 bx
  go_wp2_with fail
  refine (pick_any _ B _ 3 HR6.out (by omega) (by omega) (by omega)).mono ?_
  rintro e w7 ⟨x, rfl, hx0, hx3, hp7⟩
  have s7 := hp7.beside
  have HR7 := Hid.mk' (hp7.rdr HR6.out)
  have HRA7 := Hid.mk' (HRA6.out.beside s7)
  have HRL7 := Hid.mk' (HRL6.out.beside s7)
  have HS7 := Hid.mk' (HS6.out.trans s7)
  obtain ⟨⟨c0, c1, c2⟩, cz⟩ := HX6.out.fr (fr_beside s7) (by omega)
  clear hp7 s7 HRA6 HRL6 HR6 HS6 HX6
  by_cases hx : 0 < x
  · cases d
    · go_wp2
      refine bodyPost_ret (v := .tuple #[.int .i64 o, .slice aa LS.length ca]) (by simp [results, Tryz.results59, go_sem, *]) rfl ?_
      exact ⟨o, aa, LS.length, ca, ada, cpa, L, _, rfl, HRA7.out, by omega, by omega, HR7.out, HS7.out⟩
    · go_wp2_with fail
      have hS : w7.drew.cell? ⟨w5.heap.size, 0, none⟩ = some (.slice la X.m lc) := c0
      go_region_held3 (fun u => u.cell? ⟨w5.heap.size, 0, none⟩ = some (.slice la X.m lc)) (with_reducible exact hS) (fail)
      go_wp2
      refine bodyPost_ret (v := .tuple #[.int .i64 o, .slice la X.m lc]) (by simp [results, Tryz.results59, go_sem, *]) rfl ?_
      exact ⟨o, la, X.m, lc, lad, lcp, X.L, _, rfl, HRL7.out.below (Below.refl _ _).drew, hm12', by omega, HR7.out.drewN 1, HS7.out.drew⟩
  · go_wp2
    refine bodyPost_ret (v := .tuple #[.int .i64 o, .slice aa LS.length ca]) (by simp [results, Tryz.results59, go_sem, *]) rfl ?_
    exact ⟨o, aa, LS.length, ca, ada, cpa, L, _, rfl, HRA7.out, by omega, by omega, HR7.out, HS7.out⟩
end Go.Proofs.YtdidlcjhodejjaaGreat
