/-
  The model reads monomials (MonRead).
-/
import Derived.Test.YtnfgiplgkobnlaaDoorRdT
namespace Go.Proofs.YtnfgiplgkobnlaaDoor
open Go.RowKit
set_option linter.unusedVariables false
set_option linter.unusedSimpArgs false
set_option maxRecDepth 100000 in
set_option maxHeartbeats 4000000 in
theorem monReadS (s : List UInt8) (w : World) (hs : s.length ≤ 1048576) :
    Calls Tryd.prog 11 #[.string ⟨s.toArray⟩] w fun r w' => r = .returned (.tuple #[.agg #[.int .i64 (monR s).1.x, .int .i64 (monR s).1.y, .int .i64 (monR s).1.d, .int .i64 (monR s).1.e], .bool (monR s).2]) ∧ Below w.heap.size w w' := by
  have hsI : (s.length : Int) ≤ 1048576 := by omega
  have b1 := bel_one w (.cells #[.int .i64 0, .int .i64 0, .int .i64 0, .int .i64 0] 24)
  have HR0 := Hid.mk' (W4.box w 24 0 0 0 0)
  have HB0 := Hid.mk' b1
  have HC := Hid.mk' (l3TermS s hs (w.alloc (.cells #[.int .i64 0, .int .i64 0, .int .i64 0, .int .i64 0] 24)))
  obtain ⟨t, ht⟩ : ∃ t, trmR s = t := ⟨_, rfl⟩
  have hM := monR_spec s
  rw [ht] at HC hM
  clear ht b1
  obtain ⟨tc, ⟨x, y, d, e⟩⟩ := t
  simp only at hM
  obtain ⟨ok, hok⟩ : ∃ b, M.ok ⟨x, y, d, e⟩ = b := ⟨_, rfl⟩
  obtain ⟨S, hS⟩ : ∃ S, monT ⟨x, y, d, e⟩ = S := ⟨_, rfl⟩
  have hSne : ok = true → S ≠ [] := fun h e1 => by
    rw [h] at hok
    rw [← hS] at e1
    by_cases hz : x = 0 ∧ y = 0 ∧ d = 0 ∧ e = 0
    · obtain ⟨rfl, rfl, rfl, rfl⟩ := hz
      rw [monT_1] at e1; cases e1
    · exact (monT_not1 hok hz).2 e1
  rw [hok, hS] at hM
  obtain ⟨Rr, hRr⟩ : ∃ R, monR s = R := ⟨_, rfl⟩
  rw [hRr] at hM ⊢
  have HM := Hid.mk' hM
  have HOK := Hid.mk' hok
  have HS := Hid.mk' hS
  have HSN := Hid.mk' hSne
  clear hM hok hS hSne hRr
  go_enter Tryd.func11, Tryd.ntmps11
  go_wp2_with fail
  refine HC.out.mono ?_
  rintro r w1 ⟨rfl, hb1⟩
  have hlt1 : w.heap.size < w1.heap.size := Nat.lt_of_lt_of_le (by simp) hb1.size
  have HRA := Hid.mk' (HR0.out.below hb1)
  have HBA := Hid.mk' (bel_next HB0.out hb1)
  have HR1 := Hid.mk' ((HR0.out.below hb1).below (bel_one w1 (.cells #[.int .i64 tc, .int .i64 x, .int .i64 y, .int .i64 d, .int .i64 e] 65)))
  have HX1 := Hid.mk' (W5.box w1 65 tc x y d e)
  have HB1 := Hid.mk' (bel_next (bel_next HB0.out hb1) (bel_one w1 (.cells #[.int .i64 tc, .int .i64 x, .int .i64 y, .int .i64 d, .int .i64 e] 65)))
  have hne1 : w.heap.size ≠ w1.heap.size := by omega
  have hne2 : w1.heap.size ≠ w.heap.size := by omega
  clear hb1 HR0 HB0 HC
  have ending : ∀ (W : World) (B : Below w.heap.size w W) (v0 v1 v2 v3 : Value), Below w.heap.size w ((((W.setCell ⟨w.heap.size, 0, none⟩ v0).setCell ⟨w.heap.size, 1, none⟩ v1).setCell ⟨w.heap.size, 2, none⟩ v2).setCell ⟨w.heap.size, 3, none⟩ v3) := fun W B v0 v1 v2 v3 => (((B.setCell (Nat.le_refl _) _).setCell (Nat.le_refl _) _).setCell (Nat.le_refl _) _).setCell (Nat.le_refl _) _
  have HEND := Hid.mk' ending
  clear ending
  by_cases h0 : s = []
  · have HZ : Hid (Rr = (⟨0, 0, 0, 0⟩, false)) := by
      rw [HM.out, if_neg (fun q => HSN.out q.2.1 (q.2.2.trans h0))]; exact Hid.mk' rfl
    subst h0
    obtain ⟨⟨r0, r1, r2, r3⟩, rz⟩ := HRA.out
    go_wp2
    refine bodyPost_ret (v := .tuple #[.agg #[.int .i64 0, .int .i64 0, .int .i64 0, .int .i64 0], .bool false]) (by simp [results, Tryd.results11, go_sem, *]) rfl ⟨by rw [HZ.out], ?_⟩
    first | exact HEND.out _ HB1.out _ _ _ _ | exact (HEND.out _ HBA.out _ _ _ _).alloc (HEND.out _ HBA.out _ _ _ _).size _
  · have hie : s.isEmpty = false := by cases s <;> simp at h0 ⊢
    clear h0
    by_cases hl : s.length ≤ 40
    · have hlI : ¬ (40 : Int) < (s.length : Int) := by omega
      obtain ⟨⟨x0, x1, x2, x3, x4⟩, xz⟩ := HX1.out
      go_wp2_with fail
      refine (monOkS_of HOK.out _).mono ?_
      rintro r w2 ⟨rfl, hb2⟩
      have HB2 := Hid.mk' (bel_next HB1.out hb2)
      clear x0 x1 x2 x3 x4 xz
      have HR2 := Hid.mk' (HR1.out.below hb2)
      have HX2 := Hid.mk' (HX1.out.below hb2)
      clear hb2 HR1 HX1 HB1
      cases ok
      · have HZ : Hid (Rr = (⟨0, 0, 0, 0⟩, false)) := by rw [HM.out, if_neg (fun q => absurd q.2.1 (by simp))]; exact Hid.mk' rfl
        obtain ⟨⟨r0, r1, r2, r3⟩, rz⟩ := HR2.out
        go_wp2
        refine bodyPost_ret (v := .tuple #[.agg #[.int .i64 0, .int .i64 0, .int .i64 0, .int .i64 0], .bool false]) (by simp [results, Tryd.results11, go_sem, *]) rfl ⟨by rw [HZ.out], HEND.out _ HB2.out _ _ _ _⟩
      · obtain ⟨⟨x0, x1, x2, x3, x4⟩, xz⟩ := HX2.out
        go_wp2_with fail
        refine (monTextS x y d e _).mono ?_
        rw [HS.out]
        rintro r w3 ⟨rfl, hb3⟩
        have HB3 := Hid.mk' (bel_next HB2.out hb3)
        clear x0 x1 x2 x3 x4 xz
        obtain ⟨⟨x0, x1, x2, x3, x4⟩, xz⟩ := HX2.out.below hb3
        obtain ⟨⟨r0, r1, r2, r3⟩, rz⟩ := HR2.out.below hb3
        clear hb3 HX2 HR2 HB2
        by_cases q : S = s
        · have HZ : Hid (Rr = (⟨x, y, d, e⟩, true)) := by rw [HM.out, if_pos ⟨hl, by simp, q⟩]; exact Hid.mk' rfl
          clear HM HS HSN HOK
          subst q
          go_wp2
          refine bodyPost_ret (v := .tuple #[.agg #[.int .i64 x, .int .i64 y, .int .i64 d, .int .i64 e], .bool true]) (by simp [results, Tryd.results11, go_sem, *]) rfl ⟨by rw [HZ.out], HEND.out _ HB3.out _ _ _ _⟩
        · have HZ : Hid (Rr = (⟨0, 0, 0, 0⟩, false)) := by rw [HM.out, if_neg (fun z => q z.2.2)]; exact Hid.mk' rfl
          clear HM HS HSN HOK
          have q1 : (S == s) = false := beq_eq_false_iff_ne.2 q
          go_wp2
          refine bodyPost_ret (v := .tuple #[.agg #[.int .i64 0, .int .i64 0, .int .i64 0, .int .i64 0], .bool false]) (by simp [results, Tryd.results11, go_sem, *]) rfl ⟨by rw [HZ.out], HEND.out _ HB3.out _ _ _ _⟩
    · have hlI : (40 : Int) < (s.length : Int) := by omega
      have HZ : Hid (Rr = (⟨0, 0, 0, 0⟩, false)) := by rw [HM.out, if_neg (fun z => hl z.1)]; exact Hid.mk' rfl
      obtain ⟨⟨r0, r1, r2, r3⟩, rz⟩ := HRA.out
      go_wp2
      refine bodyPost_ret (v := .tuple #[.agg #[.int .i64 0, .int .i64 0, .int .i64 0, .int .i64 0], .bool false]) (by simp [results, Tryd.results11, go_sem, *]) rfl ⟨by rw [HZ.out], ?_⟩
      first | exact HEND.out _ HB1.out _ _ _ _ | exact (HEND.out _ HBA.out _ _ _ _).alloc (HEND.out _ HBA.out _ _ _ _).size _
end Go.Proofs.YtnfgiplgkobnlaaDoor
