/-
  Whether terms are an operator, in the program.
-/
import Derived.Test.YtoglomfejgpoeaaDoorMonoI2
import Derived.Test.YtoglomfejgpoeaaDoorPol
namespace Go.Proofs.YtoglomfejgpoeaaDoor
open Go.RowKit
set_option linter.unusedVariables false

theorem ord_pos {a b : M} (ha : a.ok = true) (hb : b.ok = true) : 0 < M.ord 1 a b ↔ rkD b < rkD a := by
  rw [← rk_deg ha hb]; unfold c3; constructor
  · intro h; split at h
    · omega
    · split at h <;> omega
  · intro h; rw [if_neg (by omega), if_pos h]; decide
def termOk (c : Int) (m : M) : Bool := decide (1 ≤ c ∧ c ≤ 100) && m.ok
set_option maxHeartbeats 400000 in
theorem polTermOkI (c x y d e : Int) (w : World) :
    Calls Tryd.prog 38 #[.int .i64 c, .agg #[.int .i64 x, .int .i64 y, .int .i64 d, .int .i64 e]] w fun r w' => r = .returned (.bool (termOk c ⟨x, y, d, e⟩)) ∧ Below w.heap.size w w' := by
  by_cases h0 : c = 0
  · subst h0
    have e1 : termOk 0 ⟨x, y, d, e⟩ = false := by simp [termOk]
    rw [e1]
    go_enter Tryd.func38, Tryd.ntmps38
    go_wp2
    go_ret
    exact ⟨rfl, bel_one w _⟩
  · have hz : (c != 0) = true := by simp [h0]
    by_cases hc : 0 ≤ c ∧ c ≤ 100
    · obtain ⟨c1, c2⟩ := hc
      have e1 : termOk c ⟨x, y, d, e⟩ = M.ok ⟨x, y, d, e⟩ := by
        have : 1 ≤ c ∧ c ≤ 100 := by omega
        simp [termOk, this]
      rw [e1]
      clear h0 e1
      go_enter Tryd.func38, Tryd.ntmps38
      go_wp2_with (go_at_call 45; refine (okI_in _ _ c1 c2).mono ?_; rintro r w' ⟨rfl, rfl⟩)
      refine (monOkI _ _ _ _ _).mono ?_
      rintro r w1 ⟨rfl, hb⟩
      go_wp2
      go_ret
      exact ⟨rfl, bel_next (bel_one w _) hb⟩
    · have hc' : c < 0 ∨ 100 < c := by omega
      have e1 : termOk c ⟨x, y, d, e⟩ = false := by
        have : ¬ (1 ≤ c ∧ c ≤ 100) := by omega
        simp [termOk, this]
      rw [e1]
      clear hc e1 h0
      go_enter Tryd.func38, Tryd.ntmps38
      go_wp2_with (go_at_call 45; refine (okI_out _ _ hc').mono ?_; rintro r w' ⟨rfl, rfl⟩)
      go_ret
      exact ⟨rfl, bel_one w _⟩
theorem polTermOkI_of {c x y d e : Int} {b : Bool} (h : termOk c ⟨x, y, d, e⟩ = b) (w : World) :
    Calls Tryd.prog 38 #[.int .i64 c, .agg #[.int .i64 x, .int .i64 y, .int .i64 d, .int .i64 e]] w fun r w' => r = .returned (.bool b) ∧ Below w.heap.size w w' := by
  rw [← h]; exact polTermOkI c x y d e w
theorem okAt_term {f : Nat → T} {k : Nat} (h : okAt f k = true) : termOk (f k).c (f k).m = true := by
  simp only [okAt, Bool.and_eq_true] at h
  simp only [termOk, Bool.and_eq_true]
  exact h.1
set_option maxRecDepth 100000 in
set_option maxHeartbeats 4000000 in
theorem polOkI (w : World) (a : Option Addr) (n cap : Nat) (f : Nat → T) (h : Rd w a n cap f) :
    Calls Tryd.prog 27 #[.slice a n cap] w fun r w' => r = .returned (.bool (polOk n f)) ∧ Below w.heap.size w w' := by
  obtain ⟨h1, h2, h3⟩ := h
  have hn : (n : Int) ≤ 140737488351232 := by omega
  by_cases hl : n ≤ 400
  · have hl' : (n : Int) ≤ 400 := by omega
    go_enter Tryd.func27, Tryd.ntmps27
    go_wp2
    go_loopw [10] (fun i wr => ∃ k : Nat, k ≤ n ∧ i = .int .i64 k ∧ Below w.heap.size w wr ∧ ∀ j, j < k → okAt f j = true) (fun i _ => n - (intOf i).toNat)
    case atStart => exact ⟨0, Nat.zero_le _, rfl, Below.refl _ _, fun j hj => absurd hj (Nat.not_lt_zero _)⟩
    case round =>
      obtain ⟨k, hk, rfl, hB, hok⟩ := hrel
      by_cases hlt : k < n
      · rcases h3 with h0 | ⟨b, off, rfl, hblt, hcl⟩
        · omega
        have hkn : (k : Int) < (n : Int) := by omega
        have hbr : b < wr.heap.size := Nat.lt_of_lt_of_le hblt hB.size
        obtain ⟨g0, g1, g2, g3, g4⟩ := (hcl k hlt).below hB hblt
        have hno : okAt f k = false → polOk n f = false := fun hf => by
          simp only [polOk, decide_eq_false_iff_not]
          intro hh
          have := hh.2 k hlt
          rw [hf] at this
          cases this
        cases ht : termOk (f k).c (f k).m
        · have HF : Hid (polOk n f = false) := hno (by
            cases h : okAt f k
            · rfl
            · rw [okAt_term h] at ht; cases ht)
          clear hno hcl hok
          go_wp2_with fail
          refine (polTermOkI_of ht _).mono ?_
          rintro r w1 ⟨rfl, hb⟩
          have HB := Hid.mk' (bel_next (hB.alloc hB.size _) hb)
          clear hb
          go_wp2
          go_ret
          exact ⟨by rw [HF.out]; rfl, HB.out⟩
        · have hm : (f k).m.ok = true := by simp only [termOk, Bool.and_eq_true] at ht; exact ht.2
          have HM := Hid.mk' hm
          have HCL := Hid.mk' hcl
          have HOK := Hid.mk' hok
          have HNO := Hid.mk' hno
          clear hcl hok hno hm
          go_wp2_with fail
          refine (polTermOkI_of ht _).mono ?_
          rintro r w1 ⟨rfl, hb⟩
          have HB := Hid.mk' (bel_next (hB.alloc hB.size _) hb)
          have hb1 : b < w1.heap.size := by have := hb.size; simp at this; omega
          have hb2 : wr.heap.size < w1.heap.size := by have := hb.size; simp at this; omega
          have hq : ∀ i v, #[Value.int .i64 (f k).c, .int .i64 (f k).m.x, .int .i64 (f k).m.y, .int .i64 (f k).m.d, .int .i64 (f k).m.e][i]? = some v → w1.cell? ⟨wr.heap.size, i, none⟩ = some v := fun i v hv => by
            rw [hb.cell (p := ⟨wr.heap.size, i, none⟩) (by simp), World.cell?_alloc_at _ _ _ _ rfl]; exact hv
          have ne := Ext.there w1
          have s1 : ∀ u : Ext w1, u.1.cell? ⟨wr.heap.size, 1, none⟩ = some (.int .i64 (f k).m.x) := fun u => (u.cell hb2).trans (hq 1 _ rfl)
          have s2 : ∀ u : Ext w1, u.1.cell? ⟨wr.heap.size, 2, none⟩ = some (.int .i64 (f k).m.y) := fun u => (u.cell hb2).trans (hq 2 _ rfl)
          have s3 : ∀ u : Ext w1, u.1.cell? ⟨wr.heap.size, 3, none⟩ = some (.int .i64 (f k).m.d) := fun u => (u.cell hb2).trans (hq 3 _ rfl)
          have s4 : ∀ u : Ext w1, u.1.cell? ⟨wr.heap.size, 4, none⟩ = some (.int .i64 (f k).m.e) := fun u => (u.cell hb2).trans (hq 4 _ rfl)
          have HBK := Hid.mk' hB
          clear hq hb g0 g1 g2 g3 g4 hB
          by_cases hk0 : k = 0
          · have ht' : okAt f k = true := by
              simp only [okAt, termOk, Bool.and_eq_true] at ht ⊢
              exact ⟨ht, by simp [hk0]⟩
            have hok' : Hid (∀ j, j < k + 1 → okAt f j = true) := fun j hj => by
              by_cases hjk : j = k
              · rw [hjk]; exact ht'
              · exact HOK.out j (by omega)
            have dk : decide (0 < k) = false := decide_eq_false (by omega)
            clear ht' hk0 ht
            go_wp2_with fail
            refine wp_region_ext (by kernel_rfl) (by kernel_rfl) ?_
            repeat (go_big_quiet_step (fail))
            refine wpQuiet_nil ?_
            rintro _ ⟨u, rfl⟩
            go_wp2
            go_roundw
            case rel => exact ⟨k + 1, by omega, by go_num, HB.out.trans (u.2.mono HB.out.size), hok'.out⟩
            case measure => simp [intOf]; omega
          · have hj : k - 1 < n := by omega
            have hcj := ((HCL.out (k - 1) hj).below HBK.out hblt)
            have hcj1 : Cells w1 b (off + (k - 1) * 5) (f (k - 1)) := (HCL.out (k - 1) hj).below HB.out hblt
            have p1 : ∀ u : Ext w1, u.1.cell? ⟨b, off + (k - 1) * 5 + 1, none⟩ = some (.int .i64 (f (k - 1)).m.x) := fun u => (u.cell hb1).trans hcj1.2.1
            have p2 : ∀ u : Ext w1, u.1.cell? ⟨b, off + (k - 1) * 5 + 2, none⟩ = some (.int .i64 (f (k - 1)).m.y) := fun u => (u.cell hb1).trans hcj1.2.2.1
            have p3 : ∀ u : Ext w1, u.1.cell? ⟨b, off + (k - 1) * 5 + 3, none⟩ = some (.int .i64 (f (k - 1)).m.d) := fun u => (u.cell hb1).trans hcj1.2.2.2.1
            have p4 : ∀ u : Ext w1, u.1.cell? ⟨b, off + (k - 1) * 5 + 4, none⟩ = some (.int .i64 (f (k - 1)).m.e) := fun u => (u.cell hb1).trans hcj1.2.2.2.2
            have hmp : (f (k - 1)).m.ok = true := by
              have := okAt_term (HOK.out (k - 1) (by omega))
              simp only [termOk, Bool.and_eq_true] at this
              exact this.2
            have HMP := Hid.mk' hmp
            clear hcj hcj1
            have dk : decide (0 < k) = true := decide_eq_true (by omega)
            have hk1 : (0 : Int) < (k : Int) := by omega
            have hk2 : (k : Int) - 1 < (n : Int) := by omega
            have hk3 : (0 : Int) ≤ (k : Int) - 1 := by omega
            by_cases hq : rkD (f k).m < rkD (f (k - 1)).m
            · have ht' : okAt f k = true := by
                simp only [okAt, termOk, Bool.and_eq_true] at ht ⊢
                exact ⟨ht, by rw [decide_eq_true ((ord_pos hmp HM.out).2 hq)]; simp⟩
              have hok' : Hid (∀ j, j < k + 1 → okAt f j = true) := fun j hj => by
                by_cases hjk : j = k
                · rw [hjk]; exact ht'
                · exact HOK.out j (by omega)
              have dq : decide (rkD ⟨(f (k - 1)).m.x, (f (k - 1)).m.y, (f (k - 1)).m.d, (f (k - 1)).m.e⟩ ≤ rkD ⟨(f k).m.x, (f k).m.y, (f k).m.d, (f k).m.e⟩) = false := decide_eq_false (Int.not_le.2 hq)
              clear ht' hk0 ht hq hmp
              go_wp2_with fail
              refine wp_region_ext (by kernel_rfl) (by kernel_rfl) ?_
              repeat (go_big_quiet_step (first | (go_at_call 39; exact ext_grows (rankDegI _ _ _ _ _ HMP.out)) | (go_at_call 39; exact ext_grows (rankDegI _ _ _ _ _ HM.out))))
              refine wpQuiet_nil ?_
              rintro _ ⟨u, rfl⟩
              go_wp2
              go_roundw
              case rel => exact ⟨k + 1, by omega, by go_num, HB.out.trans (u.2.mono HB.out.size), hok'.out⟩
              case measure => simp [intOf]; omega
            · have HF : Hid (polOk n f = false) := HNO.out (by
                cases hx : okAt f k
                · rfl
                · exfalso
                  simp only [okAt, Bool.and_eq_true, Bool.or_eq_true, decide_eq_true_eq] at hx
                  rcases hx.2 with h0 | h0
                  · exact hk0 h0
                  · exact hq ((ord_pos hmp HM.out).1 h0))
              have dq : decide (rkD ⟨(f (k - 1)).m.x, (f (k - 1)).m.y, (f (k - 1)).m.d, (f (k - 1)).m.e⟩ ≤ rkD ⟨(f k).m.x, (f k).m.y, (f k).m.d, (f k).m.e⟩) = true := decide_eq_true (Int.not_lt.1 hq)
              clear hk0 ht hq hmp
              go_wp2_with fail
              refine wp_region_ext (by kernel_rfl) (by kernel_rfl) ?_
              repeat (go_big_quiet_step (first | (go_at_call 39; exact ext_grows (rankDegI _ _ _ _ _ HMP.out)) | (go_at_call 39; exact ext_grows (rankDegI _ _ _ _ _ HM.out))))
              refine wpQuiet_nil ?_
              rintro _ ⟨u, rfl⟩
              go_wp2
              go_ret
              exact ⟨by rw [HF.out]; rfl, HB.out.trans (u.2.mono HB.out.size)⟩
      · go_wp2
        go_ret
        have hp : polOk n f = true := by
          simp only [polOk, decide_eq_true_eq]
          exact ⟨hl, fun i hi => hok i (by omega)⟩
        exact ⟨by rw [hp]; rfl, hB⟩
  · have hl' : (400 : Int) < (n : Int) := by omega
    have hp : polOk n f = false := by
      simp only [polOk, decide_eq_false_iff_not]
      exact fun h => hl h.1
    rw [hp]
    go_enter Tryd.func27, Tryd.ntmps27
    go_wp2
    go_ret
    exact ⟨rfl, Below.refl _ _⟩
end Go.Proofs.YtoglomfejgpoeaaDoor
