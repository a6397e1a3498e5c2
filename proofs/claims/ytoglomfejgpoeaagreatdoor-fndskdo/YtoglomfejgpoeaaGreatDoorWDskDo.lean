/-
  The walk of FnDskDo: whatever the code, it comes out true, and nothing that was there is turned.
-/
import Derived.Test.YtoglomfejgpoeaaGreatDoorDrawDd
import Derived.Test.YtoglomfejgpoeaaGreatDoorDdK
import Derived.Test.YtoglomfejgpoeaaGreatDoorDdI
import Derived.Test.YtoglomfejgpoeaaGreatDoorDdS
import Derived.Test.YtoglomfejgpoeaaGreatDoorGbm
import Derived.Test.YtoglomfejgpoeaaGreatDoorGbo
import Derived.Deep.RegionHeld3
namespace Go.Proofs.YtoglomfejgpoeaaGreatDoor
open Go.RowKit Go.Deep Go.Joins
set_option linter.unusedVariables false
set_option linter.unusedSimpArgs false
theorem Four.below {B sb : Nat} {x y : Int} {off A C : Nat} {u v : Value} {w w' : World} (h : Four B sb x y off A C u v w) (hb : Below w.heap.size w w') : Four B sb x y off A C u v w' :=
  ⟨(hb.cell (p := ⟨B, 2, none⟩) (World.block_lt_of_cell? w _ h.1)).trans h.1, (hb.cell (p := ⟨B, 3, none⟩) (World.block_lt_of_cell? w _ h.2.1)).trans h.2.1, (hb.cell (p := ⟨sb, off + A, none⟩) (World.block_lt_of_cell? w _ h.2.2.1)).trans h.2.2.1, (hb.cell (p := ⟨sb, off + C, none⟩) (World.block_lt_of_cell? w _ h.2.2.2)).trans h.2.2.2⟩
theorem mulO_no {o : Option (List T)} {X : List T} (h : mulO o = (X, false)) : X = [] := by
  cases o with
  | none => exact ((Prod.mk.inj h).1).symm
  | some K => exact absurd (Prod.mk.inj h).2 (by decide)
theorem add_no {f g : Nat → T} {la lb : Nat} {X : List T} (h : polAdd f la g lb = (X, false)) : X = [] := by
  unfold polAdd at h
  split at h
  · exact absurd (Prod.mk.inj h).2 (by decide)
  · exact ((Prod.mk.inj h).1).symm
theorem sub_no {f g : Nat → T} {la lb : Nat} {X : List T} (h : polSub f la g lb = (X, false)) : X = [] := by
  unfold polSub at h
  split at h
  · exact absurd (Prod.mk.inj h).2 (by decide)
  · exact ((Prod.mk.inj h).1).symm
theorem mul_no {f g : Nat → T} {la lb : Nat} {X : List T} (h : wylMul f la g lb = (X, false)) : X = [] := by
  unfold wylMul at h
  split at h
  · exact mulO_no h
  · exact ((Prod.mk.inj h).1).symm
theorem apartV_no {f g : Nat → T} {la lb : Nat} {X : List T} (h : wylApart f la g lb = (X, false)) : X = [] := by
  unfold wylApart at h
  split at h
  · exact sub_no h
  · exact ((Prod.mk.inj h).1).symm
theorem do_no {f g : Nat → T} {la lb : Nat} {X : List T} (h : wylDo f la g lb = (X, false)) : X = [] := by
  unfold wylDo at h
  split at h
  · split at h
    · exact absurd (Prod.mk.inj h).2 (by decide)
    · exact ((Prod.mk.inj h).1).symm
  · exact ((Prod.mk.inj h).1).symm
theorem mapV_no {st : List T → T → Option (List T)} {f : Nat → T} {la : Nat} {X : List T} (h : mapV st f la = (X, false)) : X = [] := by
  unfold mapV at h
  split at h
  · exact mulO_no h
  · exact ((Prod.mk.inj h).1).symm
theorem dskDo_false {k to a b : Int} {p : List T} {m : Nat} {ln : Nat → Nat} {F : Nat → Nat → T} {X : List T} (h : dskDo k to a b p m ln F = (X, false)) : X = [] := by
  unfold dskDo at h
  split at h
  · repeat' split at h
    · exact absurd (Prod.mk.inj h).2 (by decide)
    · exact add_no h
    · exact mul_no h
    · exact apartV_no h
    · exact do_no h
    · exact mapV_no h
    · exact mapV_no h
    · exact add_no h
  · exact ((Prod.mk.inj h).1).symm
theorem slot_RL {w : World} {a : Option Addr} {n c : Nat} {f : Nat → T} {L : List T} (h : Rd w a n c f) (e : polAdd f n noT 0 = (L, true)) : n = L.length ∧ RL w a c L := by
  have hL : L = (List.range' 0 n).map f := by
    unfold polAdd at e
    split at e
    · rw [← (Prod.mk.inj e).1, addT_rest f n noT n 0 (by omega)]
    · exact absurd (Prod.mk.inj e).2 (by decide)
  have hl : L.length = n := by rw [hL]; simp
  refine ⟨hl.symm, ?_⟩
  unfold RL
  rw [hl]
  refine rd_congr h (fun i hi => ?_)
  rw [lf_eq (by omega)]
  simp [hL]
set_option maxRecDepth 100000 in
set_option maxHeartbeats 16000000 in
theorem walk_FnDskDo (w : World) (a0 : Option Addr) (len0 cap0 : Nat) (s0 : Src w a0 len0 cap0) (hT : Tb w) (hD : Dw w) :
    Calls Tryz.prog 7 #[.slice a0 len0 cap0] w fun e w' => e = .returned (.bool true) ∧ Below w.heap.size w w' := by
  by_cases c0 : (1048576 : Int) < (len0 : Int)
  · go_enter Tryz.func7, Tryz.ntmps7
    go_wp2
    go_ret
    exact ⟨rfl, Below.refl _ _⟩
  have HT := Hid.mk' hT
  have HD := Hid.mk' hD
  clear hT hD
  go_enter Tryz.func7, Tryz.ntmps7
  go_wp2_with fail
  refine (drawDskDo w a0 len0 cap0 s0).mono ?_
  rintro e wd ⟨sa, m, sc, ad, ln, cp, F, k, to, a, b, pa, n, cap, f, rfl, hS, hR, hm6, hn5, hln, hbd⟩
  obtain ⟨p, rfl, hpp⟩ := list_of hR
  have bx := bel_one wd (.cells #[.int .i64 k, .int .i64 to, .int .i64 a, .int .i64 b, .slice pa p.length cap] 24)
  have HS := Hid.mk' (hS.below bx)
  have HP : Hid (Rd (wd.alloc (.cells #[.int .i64 k, .int .i64 to, .int .i64 a, .int .i64 b, .slice pa p.length cap] 24)) pa p.length cap (lf p)) := Hid.mk' (Rd.below hpp bx)
  have Z := Hid.mk' (bel_next hbd bx)
  have HX := Hid.mk' (heap_alloc_new wd (.cells #[.int .i64 k, .int .i64 to, .int .i64 a, .int .i64 b, .slice pa p.length cap] 24))
  obtain ⟨L, ok, hL⟩ : ∃ L ok, dskDo k to a b p m ln F = (L, ok) := ⟨_, _, rfl⟩
  have HL := Hid.mk' hL
  have lenL : L.length ≤ 400 := by
    have := dskDo_len k to a b p m ln F
    rw [hL] at this; exact this
  have hne : (ok != ok) = false := by simp
  clear hS hR hpp hbd bx s0 hL hln
  obtain ⟨⟨x0, x1, x2, x3, x4⟩, xz⟩ := cells5 HX.out
  go_wp2_with fail
  clear x0 x1 x2 x3 x4 xz
  generalize wd.alloc (.cells #[.int .i64 k, .int .i64 to, .int .i64 a, .int .i64 b, .slice pa p.length cap] 24) = u0 at *
  generalize wd.heap.size = X at *
  refine (dskDoI k to a b _ _ _ _ _ _ _ _ _ p _ HS.out HP.out (HT.out.below Z.out) (HD.out.below Z.out)).mono ?_
  rw [HL.out]
  rintro e u1 ⟨ag, cg, rfl, hb, hout⟩
  have G1 : Hid (RL u1 ag cg L) := Hid.mk' hout.1
  have HS1 := Hid.mk' (HS.out.below hb)
  have HP1 := Hid.mk' (HP.out.below hb)
  have Z1 := Hid.mk' (bel_next Z.out hb)
  have HX1 := Hid.mk' ((hb.block _ (Array.getElem?_eq_some_iff.1 HX.out).1).trans HX.out)
  clear hb hout HS HP Z HX
  obtain ⟨⟨x0, x1, x2, x3, x4⟩, xz⟩ := cells5 HX1.out
  go_wp2_with fail
  clear x0 x1 x2 x3 x4 xz
  refine (dskDoS k to a b _ _ _ _ _ _ _ _ _ p _ HS1.out HP1.out).mono ?_
  rw [HL.out]
  rintro e u2 ⟨vs, rfl, hb, hown⟩
  have HOW := Hid.mk' hown
  have G2 := Hid.mk' (G1.out.below hb)
  have HS2 := Hid.mk' (HS1.out.below hb)
  have HP2 := Hid.mk' (HP1.out.below hb)
  have Z2 := Hid.mk' (bel_next Z1.out hb)
  have HX2 := Hid.mk' ((hb.block _ (Array.getElem?_eq_some_iff.1 HX1.out).1).trans HX1.out)
  clear hb hown HS1 HP1 Z1 HX1 G1
  obtain ⟨asp, csp, rfl, hout⟩ := out_of_owns HOW.out (by show L.length * 40 ≤ _; omega)
  have S2 : Hid (RL u2 asp csp L) := Hid.mk' hout.1
  clear hout HOW
  go_wp2_with fail
  refine (he_L G2.out S2.out).mono ?_
  rw [sq_same]
  rintro e u3 ⟨rfl, hb⟩
  have G3 := Hid.mk' (G2.out.below hb)
  have HS3 := Hid.mk' (HS2.out.below hb)
  have HP3 := Hid.mk' (HP2.out.below hb)
  have Z3 := Hid.mk' (bel_next Z2.out hb)
  have HX3 := Hid.mk' ((hb.block _ (Array.getElem?_eq_some_iff.1 HX2.out).1).trans HX2.out)
  clear hb G2 S2 HS2 HP2 Z2 HX2
  cases ok
  · have hl0 : L = [] := dskDo_false HL.out
    subst hl0
    go_wp2_with fail
    refine (heOk_L _).mono ?_
    rintro e u4 ⟨rfl, hb⟩
    have Z4 := Hid.mk' (bel_next Z3.out hb)
    clear hb
    go_wp2
    go_ret
    exact ⟨rfl, Z4.out⟩
  obtain ⟨rfl, hl⟩ := dskDo_is HL.out
  have HOK := Hid.mk' (dskDo_ok HL.out)
  obtain ⟨⟨k1, k8⟩, ⟨t0, t5⟩, ⟨a1, a5⟩, ⟨b1, b5⟩, hpk⟩ := whl_facts hl
  have HEQ := Hid.mk' ((dskDo_eq (ln := ln) (F := F) ⟨rfl, hl⟩).symm.trans HL.out)
  obtain ⟨A, rfl⟩ : ∃ A : Nat, a = (A : Int) := ⟨a.toNat, by omega⟩
  obtain ⟨C, rfl⟩ : ∃ C : Nat, b = (C : Int) := ⟨b.toNat, by omega⟩
  obtain ⟨D, rfl⟩ : ∃ D : Nat, to = (D : Int) := ⟨to.toNat, by omega⟩
  simp only [Int.toNat_natCast] at HEQ
  have hA6 : A < 6 := by omega
  have hC6 : C < 6 := by omega
  have hD6 : D < 6 := by omega
  have hAI : (A : Int) < 6 := by omega
  have hCI : (C : Int) < 6 := by omega
  have hDI : (D : Int) < 6 := by omega
  obtain ⟨sb, off, rfl, hlt, hc⟩ := HS3.out.2.2.1.resolve_left (by omega)
  have rA := hc A hA6
  have rC := hc C hC6
  have rD := hc D hD6
  have kk : k = 1 ∨ k = 2 ∨ k = 3 ∨ k = 4 ∨ k = 5 ∨ k = 6 ∨ k = 7 ∨ k = 8 := by omega
  clear hl HL t0 t5 a1 a5 b1 b5 k1 k8 hc hpk
  obtain ⟨⟨x0, x1, x2, x3, x4⟩, xz⟩ := cells5 HX3.out
  rcases kk with rfl | rfl | rfl | rfl | rfl | rfl | rfl | rfl
  · skip
    have e : p = L := (Prod.mk.inj HEQ.out).1
    subst e
    have G9 := G3
    have Z9 := Z3
    have X9 : Hid (RL u3 pa cap p) := HP3
    clear HEQ
    go_wp2_with fail
    refine (he_L X9.out G9.out).mono ?_
    rw [sq_same]
    rintro e u8 ⟨rfl, hb⟩
    have GA := Hid.mk' (G9.out.below hb)
    have ZA := Hid.mk' (bel_next Z9.out hb)
    clear hb
    go_wp2_with fail
    refine (okI_L GA.out).mono ?_
    rw [HOK.out]
    rintro e u9 ⟨rfl, hb⟩
    have ZB := Hid.mk' (bel_next ZA.out hb)
    clear hb
    go_wp2
    go_ret
    exact ⟨rfl, ZB.out⟩
  · skip
    have HF : Hid (Four X sb (A : Int) (C : Int) off A C (.slice (ad A) (ln A) (cp A)) (.slice (ad C) (ln C) (cp C)) u3.drew) := Hid.mk' ⟨x2, x3, rA, rC⟩
    have HSd := Hid.mk' (HS3.out.below (Below.refl _ _).drew)
    have HCA := Hid.mk' (polAddI _ _ _ _ _ _ _ _ _ (HSd.out.2.2.2 A hA6) (HSd.out.2.2.2 C hC6))
    rw [show polAdd (F A) (ln A) (F C) (ln C) = (L, true) from HEQ.out] at HCA
    go_wp2_with fail
    clear x0 x1 x2 x3 x4 xz rA rC rD
    go_region_held3 (fun u => u.cell? ⟨X, 2, none⟩ = some (.int .i64 (A : Int)) ∧ u.cell? ⟨X, 3, none⟩ = some (.int .i64 (C : Int)) ∧ u.cell? ⟨sb, off + A, none⟩ = some (.slice (ad A) (ln A) (cp A)) ∧ u.cell? ⟨sb, off + C, none⟩ = some (.slice (ad C) (ln C) (cp C))) (first | with_reducible exact HF2.out | with_reducible exact HF.out) ((go_at_call 38; refine HCA.out.mono ?_; rintro e u5 ⟨xa, xc, rfl, hb5, ho5⟩; have HF2 := Hid.mk' (HF.out.below hb5); have HB5 := Hid.mk' hb5; have X9 : Hid (RL u5 xa xc L) := Hid.mk' ho5.1; clear hb5 ho5))
    have G9 := Hid.mk' ((G3.out.below (Below.refl _ _).drew).below HB5.out)
    have Z9 := Hid.mk' (bel_next Z3.out.drew HB5.out)
    clear HB5 HF HF2 HCA HEQ
    go_wp2_with fail
    refine (he_L X9.out G9.out).mono ?_
    rw [sq_same]
    rintro e u8 ⟨rfl, hb⟩
    have GA := Hid.mk' (G9.out.below hb)
    have ZA := Hid.mk' (bel_next Z9.out hb)
    clear hb
    go_wp2_with fail
    refine (okI_L GA.out).mono ?_
    rw [HOK.out]
    rintro e u9 ⟨rfl, hb⟩
    have ZB := Hid.mk' (bel_next ZA.out hb)
    clear hb
    go_wp2
    go_ret
    exact ⟨rfl, ZB.out⟩
  · skip
    have HF : Hid (Four X sb (A : Int) (C : Int) off A C (.slice (ad A) (ln A) (cp A)) (.slice (ad C) (ln C) (cp C)) u3.drew) := Hid.mk' ⟨x2, x3, rA, rC⟩
    have HSd := Hid.mk' (HS3.out.below (Below.refl _ _).drew)
    have HCA := Hid.mk' (wylMulI _ _ _ _ _ _ _ _ _ (HSd.out.2.2.2 A hA6) (HSd.out.2.2.2 C hC6))
    rw [show wylMul (F A) (ln A) (F C) (ln C) = (L, true) from HEQ.out] at HCA
    go_wp2_with fail
    clear x0 x1 x2 x3 x4 xz rA rC rD
    go_region_held3 (fun u => u.cell? ⟨X, 2, none⟩ = some (.int .i64 (A : Int)) ∧ u.cell? ⟨X, 3, none⟩ = some (.int .i64 (C : Int)) ∧ u.cell? ⟨sb, off + A, none⟩ = some (.slice (ad A) (ln A) (cp A)) ∧ u.cell? ⟨sb, off + C, none⟩ = some (.slice (ad C) (ln C) (cp C))) (first | with_reducible exact HF2.out | with_reducible exact HF.out) ((go_at_call 39; refine HCA.out.mono ?_; rintro e u5 ⟨xa, xc, rfl, hb5, ho5⟩; have HF2 := Hid.mk' (HF.out.below hb5); have HB5 := Hid.mk' hb5; have X9 : Hid (RL u5 xa xc L) := Hid.mk' ho5.1; clear hb5 ho5))
    have G9 := Hid.mk' ((G3.out.below (Below.refl _ _).drew).below HB5.out)
    have Z9 := Hid.mk' (bel_next Z3.out.drew HB5.out)
    clear HB5 HF HF2 HCA HEQ
    go_wp2_with fail
    refine (he_L X9.out G9.out).mono ?_
    rw [sq_same]
    rintro e u8 ⟨rfl, hb⟩
    have GA := Hid.mk' (G9.out.below hb)
    have ZA := Hid.mk' (bel_next Z9.out hb)
    clear hb
    go_wp2_with fail
    refine (okI_L GA.out).mono ?_
    rw [HOK.out]
    rintro e u9 ⟨rfl, hb⟩
    have ZB := Hid.mk' (bel_next ZA.out hb)
    clear hb
    go_wp2
    go_ret
    exact ⟨rfl, ZB.out⟩
  · skip
    have HF : Hid (Four X sb (A : Int) (C : Int) off A C (.slice (ad A) (ln A) (cp A)) (.slice (ad C) (ln C) (cp C)) u3.drew) := Hid.mk' ⟨x2, x3, rA, rC⟩
    have HSd := Hid.mk' (HS3.out.below (Below.refl _ _).drew)
    have HCA := Hid.mk' (wylApartI _ _ _ _ _ _ _ _ _ (HSd.out.2.2.2 A hA6) (HSd.out.2.2.2 C hC6))
    rw [show wylApart (F A) (ln A) (F C) (ln C) = (L, true) from HEQ.out] at HCA
    go_wp2_with fail
    clear x0 x1 x2 x3 x4 xz rA rC rD
    go_region_held3 (fun u => u.cell? ⟨X, 2, none⟩ = some (.int .i64 (A : Int)) ∧ u.cell? ⟨X, 3, none⟩ = some (.int .i64 (C : Int)) ∧ u.cell? ⟨sb, off + A, none⟩ = some (.slice (ad A) (ln A) (cp A)) ∧ u.cell? ⟨sb, off + C, none⟩ = some (.slice (ad C) (ln C) (cp C))) (first | with_reducible exact HF2.out | with_reducible exact HF.out) ((go_at_call 40; refine HCA.out.mono ?_; rintro e u5 ⟨xa, xc, rfl, hb5, ho5⟩; have HF2 := Hid.mk' (HF.out.below hb5); have HB5 := Hid.mk' hb5; have X9 : Hid (RL u5 xa xc L) := Hid.mk' ho5.1; clear hb5 ho5))
    have G9 := Hid.mk' ((G3.out.below (Below.refl _ _).drew).below HB5.out)
    have Z9 := Hid.mk' (bel_next Z3.out.drew HB5.out)
    clear HB5 HF HF2 HCA HEQ
    go_wp2_with fail
    refine (he_L X9.out G9.out).mono ?_
    rw [sq_same]
    rintro e u8 ⟨rfl, hb⟩
    have GA := Hid.mk' (G9.out.below hb)
    have ZA := Hid.mk' (bel_next Z9.out hb)
    clear hb
    go_wp2_with fail
    refine (okI_L GA.out).mono ?_
    rw [HOK.out]
    rintro e u9 ⟨rfl, hb⟩
    have ZB := Hid.mk' (bel_next ZA.out hb)
    clear hb
    go_wp2
    go_ret
    exact ⟨rfl, ZB.out⟩
  · skip
    have HF : Hid (Four X sb (A : Int) (C : Int) off A C (.slice (ad A) (ln A) (cp A)) (.slice (ad C) (ln C) (cp C)) u3.drew) := Hid.mk' ⟨x2, x3, rA, rC⟩
    have HSd := Hid.mk' (HS3.out.below (Below.refl _ _).drew)
    have HCA := Hid.mk' (wylDoI _ _ _ _ _ _ _ _ _ (HSd.out.2.2.2 A hA6) (HSd.out.2.2.2 C hC6))
    rw [show wylDo (F A) (ln A) (F C) (ln C) = (L, true) from HEQ.out] at HCA
    go_wp2_with fail
    clear x0 x1 x2 x3 x4 xz rA rC rD
    go_region_held3 (fun u => u.cell? ⟨X, 2, none⟩ = some (.int .i64 (A : Int)) ∧ u.cell? ⟨X, 3, none⟩ = some (.int .i64 (C : Int)) ∧ u.cell? ⟨sb, off + A, none⟩ = some (.slice (ad A) (ln A) (cp A)) ∧ u.cell? ⟨sb, off + C, none⟩ = some (.slice (ad C) (ln C) (cp C))) (first | with_reducible exact HF2.out | with_reducible exact HF.out) ((go_at_call 41; refine HCA.out.mono ?_; rintro e u5 ⟨xa, xc, rfl, hb5, ho5⟩; have HF2 := Hid.mk' (HF.out.below hb5); have HB5 := Hid.mk' hb5; have X9 : Hid (RL u5 xa xc L) := Hid.mk' ho5.1; clear hb5 ho5))
    have G9 := Hid.mk' ((G3.out.below (Below.refl _ _).drew).below HB5.out)
    have Z9 := Hid.mk' (bel_next Z3.out.drew HB5.out)
    clear HB5 HF HF2 HCA HEQ
    go_wp2_with fail
    refine (he_L X9.out G9.out).mono ?_
    rw [sq_same]
    rintro e u8 ⟨rfl, hb⟩
    have GA := Hid.mk' (G9.out.below hb)
    have ZA := Hid.mk' (bel_next Z9.out hb)
    clear hb
    go_wp2_with fail
    refine (okI_L GA.out).mono ?_
    rw [HOK.out]
    rintro e u9 ⟨rfl, hb⟩
    have ZB := Hid.mk' (bel_next ZA.out hb)
    clear hb
    go_wp2
    go_ret
    exact ⟨rfl, ZB.out⟩
  · skip
    have HCA := Hid.mk' (mapRoundI _ _ _ _ _ (HS3.out.2.2.2 A hA6))
    rw [show mapRound (F A) (ln A) = (L, true) from HEQ.out] at HCA
    go_wp2_with fail
    clear x0 x1 x2 x3 x4 xz rA rC rD
    refine HCA.out.mono ?_
    rintro e u5 ⟨xa, xc, rfl, hb5, ho5⟩
    have X9 : Hid (RL u5 xa xc L) := Hid.mk' ho5.1
    have G9 := Hid.mk' (G3.out.below hb5)
    have Z9 := Hid.mk' (bel_next Z3.out hb5)
    clear hb5 ho5 HCA HEQ
    go_wp2_with fail
    refine (he_L X9.out G9.out).mono ?_
    rw [sq_same]
    rintro e u8 ⟨rfl, hb⟩
    have GA := Hid.mk' (G9.out.below hb)
    have ZA := Hid.mk' (bel_next Z9.out hb)
    clear hb
    go_wp2_with fail
    refine (okI_L GA.out).mono ?_
    rw [HOK.out]
    rintro e u9 ⟨rfl, hb⟩
    have ZB := Hid.mk' (bel_next ZA.out hb)
    clear hb
    go_wp2
    go_ret
    exact ⟨rfl, ZB.out⟩
  · skip
    have HCA := Hid.mk' (mapBackI _ _ _ _ _ (HS3.out.2.2.2 A hA6))
    rw [show mapBack (F A) (ln A) = (L, true) from HEQ.out] at HCA
    go_wp2_with fail
    clear x0 x1 x2 x3 x4 xz rA rC rD
    refine HCA.out.mono ?_
    rintro e u5 ⟨xa, xc, rfl, hb5, ho5⟩
    have X9 : Hid (RL u5 xa xc L) := Hid.mk' ho5.1
    have G9 := Hid.mk' (G3.out.below hb5)
    have Z9 := Hid.mk' (bel_next Z3.out hb5)
    clear hb5 ho5 HCA HEQ
    go_wp2_with fail
    refine (he_L X9.out G9.out).mono ?_
    rw [sq_same]
    rintro e u8 ⟨rfl, hb⟩
    have GA := Hid.mk' (G9.out.below hb)
    have ZA := Hid.mk' (bel_next Z9.out hb)
    clear hb
    go_wp2_with fail
    refine (okI_L GA.out).mono ?_
    rw [HOK.out]
    rintro e u9 ⟨rfl, hb⟩
    have ZB := Hid.mk' (bel_next ZA.out hb)
    clear hb
    go_wp2
    go_ret
    exact ⟨rfl, ZB.out⟩
  · skip
    obtain ⟨hlen, hrl⟩ := slot_RL (HS3.out.2.2.2 D hD6) HEQ.out
    rw [hlen] at rD
    have X9 : Hid (RL u3 (ad D) (cp D) L) := Hid.mk' hrl
    have G9 := G3
    have Z9 := Z3
    clear hlen hrl HEQ
    go_wp2_with fail
    refine (he_L X9.out G9.out).mono ?_
    rw [sq_same]
    rintro e u8 ⟨rfl, hb⟩
    have GA := Hid.mk' (G9.out.below hb)
    have ZA := Hid.mk' (bel_next Z9.out hb)
    clear hb
    go_wp2_with fail
    refine (okI_L GA.out).mono ?_
    rw [HOK.out]
    rintro e u9 ⟨rfl, hb⟩
    have ZB := Hid.mk' (bel_next ZA.out hb)
    clear hb
    go_wp2
    go_ret
    exact ⟨rfl, ZB.out⟩
end Go.Proofs.YtoglomfejgpoeaaGreatDoor
