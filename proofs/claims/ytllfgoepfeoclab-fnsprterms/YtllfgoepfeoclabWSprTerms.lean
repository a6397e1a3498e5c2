/-
  The walk of FnSprTerms: whatever the code, it comes out true, and nothing that was there is turned.
-/
import Derived.Test.YtllfgoepfeoclabOrdD
import Derived.Test.YtllfgoepfeoclabSprL
namespace Go.Proofs.Ytllfgoepfeoclab
open Go.RowKit Go.Deep Go.Joins
set_option linter.unusedVariables false
set_option maxRecDepth 100000 in
set_option maxHeartbeats 8000000 in
theorem walk_FnSprTerms (w : World) (a0 : Option Addr) (len0 cap0 : Nat) (s0 : Src w a0 len0 cap0) :
    Calls Try.prog 4 #[.slice a0 len0 cap0] w fun e w' => e = .returned (.bool true) ∧ Below w.heap.size w w' := by
  by_cases c0 : (1048576 : Int) < (len0 : Int)
  · go_enter Try.func4, Try.ntmps4
    go_wp2
    go_ret
    exact ⟨rfl, Below.refl _ _⟩
  go_enter Try.func4, Try.ntmps4
  go_wp2_with fail
  refine (drawSprTerms _ _ _ _ s0).mono ?_
  rintro e w1 ⟨o, pa, n, pc, f, pb, m, qc, g, rfl, hrd, hrd', hn, hm, b1⟩
  have RA1 := Hid.mk' hrd
  have RB1 := Hid.mk' hrd'
  have B1 := Hid.mk' b1
  have hn5 : (n : Int) ≤ 5 := by omega
  have hm5 : (m : Int) ≤ 5 := by omega
  have HI1 := sprTermsI w1 o pa n pc f pb m qc g hrd hrd'
  have HS := fun (W : World) (h : Rd W pa n pc f) (h' : Rd W pb m qc g) => sprTermsS W o pa n pc f pb m qc g h h'
  have HLA := fun (W : World) (h : Rd W pa n pc f) => polLeadI W o pa n pc f h
  have HLB := fun (W : World) (h : Rd W pb m qc g) => polLeadI W o pb m qc g h
  have hlaw := fun h => @spr_law o n f m g h
  have hzU : sprOk o n f m g = false → sprU o n f m g = zeroT := fun h => if_neg (by rw [h]; decide)
  have hzV : sprOk o n f m g = false → sprV o n f m g = zeroT := fun h => if_neg (by rw [h]; decide)
  clear s0 hrd hrd' b1
  unfold sprB at hlaw
  generalize sprU o n f m g = U at *
  generalize sprV o n f m g = V at *
  generalize leadT o n f = s at *
  generalize leadT o m g = t at *
  generalize leadOk o n f = k1 at *
  generalize leadOk o m g = k2 at *
  generalize sprOk o n f m g = ok at *
  have HLAW := Hid.mk' hlaw
  have HZU := Hid.mk' hzU
  have HZV := Hid.mk' hzV
  clear hlaw hzU hzV
  go_wp2_with fail
  refine HI1.mono ?_
  rintro e w2 ⟨rfl, b2⟩
  have RA2 := Hid.mk' (RA1.out.below b2)
  have RB2 := Hid.mk' (RB1.out.below b2)
  have B2 := Hid.mk' (bel_next B1.out b2)
  clear b2 HI1 RA1 RB1 B1
  have hbb := (bel_two w2 (.cells #[.int .i64 U.c, .int .i64 U.m.x, .int .i64 U.m.y, .int .i64 U.m.d, .int .i64 U.m.e] 38) (.cells #[.int .i64 V.c, .int .i64 V.m.x, .int .i64 V.m.y, .int .i64 V.m.d, .int .i64 V.m.e] 38))
  have RA3 := Hid.mk' (RA2.out.below hbb)
  have RB3 := Hid.mk' (RB2.out.below hbb)
  have B3 := Hid.mk' (bel_next B2.out hbb)
  have U3 := Hid.mk' ((C5.box w2 38 U).below (bel_one (w2.alloc (.cells #[.int .i64 U.c, .int .i64 U.m.x, .int .i64 U.m.y, .int .i64 U.m.d, .int .i64 U.m.e] 38)) (.cells #[.int .i64 V.c, .int .i64 V.m.x, .int .i64 V.m.y, .int .i64 V.m.d, .int .i64 V.m.e] 38)))
  have v3 := C5.box (w2.alloc (.cells #[.int .i64 U.c, .int .i64 U.m.x, .int .i64 U.m.y, .int .i64 U.m.d, .int .i64 U.m.e] 38)) 38 V
  rw [World.size_alloc] at v3
  have V3 := Hid.mk' v3
  clear hbb v3 RA2 RB2 B2
  go_wp2_with fail
  generalize ((w2.alloc (.cells #[.int .i64 U.c, .int .i64 U.m.x, .int .i64 U.m.y, .int .i64 U.m.d, .int .i64 U.m.e] 38)).alloc (.cells #[.int .i64 V.c, .int .i64 V.m.x, .int .i64 V.m.y, .int .i64 V.m.d, .int .i64 V.m.e] 38)) = w3 at *
  refine (HS w3 RA3.out RB3.out).mono ?_
  rintro e w4 ⟨rfl, b4⟩
  have hbb := bel_next b4 (bel_two w4 (.cells #[.int .i64 U.c, .int .i64 U.m.x, .int .i64 U.m.y, .int .i64 U.m.d, .int .i64 U.m.e] 38) (.cells #[.int .i64 V.c, .int .i64 V.m.x, .int .i64 V.m.y, .int .i64 V.m.d, .int .i64 V.m.e] 38))
  have RA5 := Hid.mk' (RA3.out.below hbb)
  have RB5 := Hid.mk' (RB3.out.below hbb)
  have B5 := Hid.mk' (bel_next B3.out hbb)
  have U5 := Hid.mk' (U3.out.below hbb)
  have V5 := Hid.mk' (V3.out.below hbb)
  have X5 := Hid.mk' ((C5.box w4 38 U).below (bel_one (w4.alloc (.cells #[.int .i64 U.c, .int .i64 U.m.x, .int .i64 U.m.y, .int .i64 U.m.d, .int .i64 U.m.e] 38)) (.cells #[.int .i64 V.c, .int .i64 V.m.x, .int .i64 V.m.y, .int .i64 V.m.d, .int .i64 V.m.e] 38)))
  have y5 := C5.box (w4.alloc (.cells #[.int .i64 U.c, .int .i64 U.m.x, .int .i64 U.m.y, .int .i64 U.m.d, .int .i64 U.m.e] 38)) 38 V
  rw [World.size_alloc] at y5
  have Y5 := Hid.mk' y5
  have hu4 := U3.out.below b4
  have hv4 := V3.out.below b4
  obtain ⟨r0, r1, r2, r3, r4⟩ := hu4
  obtain ⟨p0, p1, p2, p3, p4⟩ := hv4
  have l1 : w2.heap.size < w4.heap.size := World.block_lt_of_cell? w4 _ r0
  have l2 : w2.heap.size + 1 < w4.heap.size := World.block_lt_of_cell? w4 _ p0
  have hkk : (ok != ok) = false := by simp
  clear hbb y5 b4 HS RA3 RB3 B3 U3 V3
  cases ok
  · have e1 := HZU.out rfl
    have e2 := HZV.out rfl
    subst e1 e2
    go_wp2_with fail
    clear r0 r1 r2 r3 r4 p0 p1 p2 p3 p4
    refine (heOkT _).mono ?_
    rintro e wz ⟨rfl, bzz⟩
    have HBZ := Hid.mk' (bel_next B5.out bzz)
    clear bzz
    go_wp2
    go_ret
    exact ⟨rfl, HBZ.out⟩
  · obtain ⟨q1, q2, q3, q4, hx, hy, hd, he⟩ := HLAW.out rfl
    obtain ⟨b, hb⟩ : ∃ b, M.both ⟨s.m.x, s.m.y, s.m.d, s.m.e⟩ ⟨t.m.x, t.m.y, t.m.d, t.m.e⟩ = b := ⟨_, rfl⟩
    rw [show M.both s.m t.m = b from hb] at q1 q2
    have q1 : M.mul ⟨U.m.x, U.m.y, U.m.d, U.m.e⟩ ⟨s.m.x, s.m.y, s.m.d, s.m.e⟩ = (b, true) := q1
    have q2 : M.mul ⟨V.m.x, V.m.y, V.m.d, V.m.e⟩ ⟨t.m.x, t.m.y, t.m.d, t.m.e⟩ = (b, true) := q2
    have HX : Hid ((U.m.x == 0) = true ∨ ((U.m.x == 0) = false ∧ (V.m.x == 0) = true)) := by
      by_cases h : U.m.x = 0
      · exact .inl (by simp [h])
      · exact .inr ⟨by simp [h], by simp [hx.resolve_left h]⟩
    have HY : Hid ((U.m.y == 0) = true ∨ ((U.m.y == 0) = false ∧ (V.m.y == 0) = true)) := by
      by_cases h : U.m.y = 0
      · exact .inl (by simp [h])
      · exact .inr ⟨by simp [h], by simp [hy.resolve_left h]⟩
    have HD : Hid ((U.m.d == 0) = true ∨ ((U.m.d == 0) = false ∧ (V.m.d == 0) = true)) := by
      by_cases h : U.m.d = 0
      · exact .inl (by simp [h])
      · exact .inr ⟨by simp [h], by simp [hd.resolve_left h]⟩
    have HE : Hid ((U.m.e == 0) = true ∨ ((U.m.e == 0) = false ∧ (V.m.e == 0) = true)) := by
      by_cases h : U.m.e = 0
      · exact .inl (by simp [h])
      · exact .inr ⟨by simp [h], by simp [he.resolve_left h]⟩
    have Q1 := Hid.mk' q1
    have Q2 := Hid.mk' q2
    have Q3 := Hid.mk' q3
    have Q4 := Hid.mk' q4
    have HBo := Hid.mk' hb
    have HLA' := Hid.mk' HLA
    have HLB' := Hid.mk' HLB
    clear q1 q2 q3 q4 hx hy hd he hb HLAW HZU HZV HLA HLB X5 Y5
    go_wp2_with fail
    clear r0 r1 r2 r3 r4 p0 p1 p2 p3 p4 l1 l2
    generalize ((w4.alloc (.cells #[.int .i64 U.c, .int .i64 U.m.x, .int .i64 U.m.y, .int .i64 U.m.d, .int .i64 U.m.e] 38)).alloc (.cells #[.int .i64 V.c, .int .i64 V.m.x, .int .i64 V.m.y, .int .i64 V.m.d, .int .i64 V.m.e] 38)) = w5 at *
    refine (HLA'.out w5 RA5.out).mono ?_
    rintro e w6 ⟨rfl, b6⟩
    have hbb := bel_next b6 (bel_one w6 (.cells #[.int .i64 s.c, .int .i64 s.m.x, .int .i64 s.m.y, .int .i64 s.m.d, .int .i64 s.m.e] 38))
    have RB6 := Hid.mk' (RB5.out.below hbb)
    have U6 := Hid.mk' (U5.out.below hbb)
    have V6 := Hid.mk' (V5.out.below hbb)
    have B6 := Hid.mk' (bel_next B5.out hbb)
    have S6 := Hid.mk' (C5.box w6 38 s)
    clear b6 hbb RA5 RB5 U5 V5 B5 HLA'
    go_wp2_with fail
    generalize (w6.alloc (.cells #[.int .i64 s.c, .int .i64 s.m.x, .int .i64 s.m.y, .int .i64 s.m.d, .int .i64 s.m.e] 38)) = w7 at *
    refine (HLB'.out w7 RB6.out).mono ?_
    rintro e w8 ⟨rfl, b8⟩
    have hbb := bel_next b8 (bel_one w8 (.cells #[.int .i64 t.c, .int .i64 t.m.x, .int .i64 t.m.y, .int .i64 t.m.d, .int .i64 t.m.e] 38))
    have U8 := Hid.mk' (U6.out.below hbb)
    have V8 := Hid.mk' (V6.out.below hbb)
    have B8 := Hid.mk' (bel_next B6.out hbb)
    have S8 := Hid.mk' (S6.out.below hbb)
    have T8 := Hid.mk' (C5.box w8 38 t)
    obtain ⟨r0, r1, r2, r3, r4⟩ := S6.out.below b8
    have l1 : w6.heap.size < w8.heap.size := World.block_lt_of_cell? w8 _ r0
    clear b8 hbb RB6 U6 V6 B6 S6 HLB'
    go_wp2_with fail
    clear r0 r1 r2 r3 r4 l1
    generalize (w8.alloc (.cells #[.int .i64 t.c, .int .i64 t.m.x, .int .i64 t.m.y, .int .i64 t.m.d, .int .i64 t.m.e] 38)) = w9 at *
    refine (monBothI_of HBo.out _).mono ?_
    rintro e wA ⟨rfl, bA⟩
    have hbb := bel_next bA (bel_one wA (.cells #[.int .i64 b.x, .int .i64 b.y, .int .i64 b.d, .int .i64 b.e] 36))
    have UA := Hid.mk' (U8.out.below hbb)
    have VA := Hid.mk' (V8.out.below hbb)
    have BA := Hid.mk' (bel_next B8.out hbb)
    have SA := Hid.mk' (S8.out.below hbb)
    have TA := Hid.mk' (T8.out.below hbb)
    have MA := Hid.mk' (M4.box wA 36 b.x b.y b.d b.e)
    obtain ⟨r0, r1, r2, r3, r4⟩ := U8.out.below bA
    obtain ⟨p0, p1, p2, p3, p4⟩ := S8.out.below bA
    have l1 : w2.heap.size < wA.heap.size := World.block_lt_of_cell? wA _ r0
    have l2 : w6.heap.size < wA.heap.size := World.block_lt_of_cell? wA _ p0
    clear bA hbb U8 V8 B8 S8 T8
    go_wp2_with fail
    clear r0 r1 r2 r3 r4 p0 p1 p2 p3 p4 l1 l2
    generalize (wA.alloc (.cells #[.int .i64 b.x, .int .i64 b.y, .int .i64 b.d, .int .i64 b.e] 36)) = wB at *
    refine (monMulI_of Q1.out _).mono ?_
    rintro e wC ⟨rfl, bC⟩
    have hbb := bel_next bC (bel_one wC (.cells #[.int .i64 b.x, .int .i64 b.y, .int .i64 b.d, .int .i64 b.e] 36))
    have UC := Hid.mk' (UA.out.below hbb)
    have VC := Hid.mk' (VA.out.below hbb)
    have BC := Hid.mk' (bel_next BA.out hbb)
    have SC := Hid.mk' (SA.out.below hbb)
    have TC := Hid.mk' (TA.out.below hbb)
    have MC := Hid.mk' (MA.out.below hbb)
    have NC := Hid.mk' (M4.box wC 36 b.x b.y b.d b.e)
    obtain ⟨r0, r1, r2, r3, r4⟩ := VA.out.below bC
    obtain ⟨p0, p1, p2, p3, p4⟩ := TA.out.below bC
    have l1 : w2.heap.size + 1 < wC.heap.size := World.block_lt_of_cell? wC _ r0
    have l2 : w8.heap.size < wC.heap.size := World.block_lt_of_cell? wC _ p0
    clear bC hbb UA VA BA SA TA MA
    go_wp2_with fail
    clear r0 r1 r2 r3 r4 p0 p1 p2 p3 p4 l1 l2
    generalize (wC.alloc (.cells #[.int .i64 b.x, .int .i64 b.y, .int .i64 b.d, .int .i64 b.e] 36)) = wD at *
    refine (monMulI_of Q2.out _).mono ?_
    rintro e wE ⟨rfl, bE⟩
    have hbb := bE
    have UE := Hid.mk' (UC.out.below hbb)
    have VE := Hid.mk' (VC.out.below hbb)
    have BE := Hid.mk' (bel_next BC.out hbb)
    have SE := Hid.mk' (SC.out.below hbb)
    have TE := Hid.mk' (TC.out.below hbb)
    have ME := Hid.mk' (MC.out.below hbb)
    have NE := Hid.mk' (NC.out.below hbb)
    have BF := Hid.mk' (BE.out.alloc BE.out.size (.cells #[.int .i64 b.x, .int .i64 b.y, .int .i64 b.d, .int .i64 b.e] 36))
    clear bE hbb UC VC BC SC TC MC NC
    obtain ⟨u0, u1, u2, u3, u4⟩ := UE.out
    obtain ⟨v0, v1, v2, v3, v4⟩ := VE.out
    obtain ⟨s0, s1, s2, s3, s4⟩ := SE.out
    obtain ⟨t0, t1, t2, t3, t4⟩ := TE.out
    obtain ⟨x0, x1, x2, x3⟩ := ME.out
    obtain ⟨y0, y1, y2, y3⟩ := NE.out
    have l1 : w2.heap.size < wE.heap.size := World.block_lt_of_cell? wE _ u0
    have l2 : w2.heap.size + 1 < wE.heap.size := World.block_lt_of_cell? wE _ v0
    have l3 : w6.heap.size < wE.heap.size := World.block_lt_of_cell? wE _ s0
    have l4 : w8.heap.size < wE.heap.size := World.block_lt_of_cell? wE _ t0
    have l5 : wA.heap.size < wE.heap.size := World.block_lt_of_cell? wE _ x0
    have l6 : wC.heap.size < wE.heap.size := World.block_lt_of_cell? wE _ y0
    have q3 := Q3.out
    have q4 := Q4.out
    clear UE VE SE TE ME NE BE Q1 Q2 Q3 Q4 HBo
    rcases HX.out with hx | ⟨hx, hx'⟩ <;> rcases HY.out with hy | ⟨hy, hy'⟩ <;> rcases HD.out with hd | ⟨hd, hd'⟩ <;> rcases HE.out with he | ⟨he, he'⟩
    all_goals
      clear HX HY HD HE
      go_wp2_with (go_at_call 18; refine (mulI _ _ _).mono ?_; rintro e w' ⟨rfl, hw'⟩; obtain rfl := hw'.symm; clear hw')
      go_ret
      exact ⟨rfl, BF.out⟩
end Go.Proofs.Ytllfgoepfeoclab
