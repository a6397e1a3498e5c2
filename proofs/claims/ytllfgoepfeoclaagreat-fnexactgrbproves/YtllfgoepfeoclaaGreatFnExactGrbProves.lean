/-
  FnExactGrbProves: at every argument the program answers as its model; it writes into no argument.
-/
import Derived.Test.YtllfgoepfeoclaaGreatGpB
import Derived.Test.YtllfgoepfeoclaaGreatGpO
import Derived.ProofKit
import Derived.OpenShut
import Derived.Deep.RegionHeld3
import Derived.Deep.Light
namespace Go.Proofs.YtllfgoepfeoclaaGreat.fnExactGrbProves
open Go.ChangeShapes Go.WideShapes Go.ChangeAt Go.RowKit Go.Deep Go.Joins
set_option linter.unusedVariables false

theorem isTerms_below {w w' : World} {a : Option Addr} {n cap : Nat} {f : Nat → T} (h : IsTerms w a n cap f) (hb : Below w.heap.size w w') : IsTerms w' a n cap f :=
  ⟨h.1, h.2.1, h.2.2.imp id fun ⟨b, off, e, hlt, hc⟩ => ⟨b, off, e, Nat.lt_of_lt_of_le hlt hb.size, fun i hi => (hc i hi).below hb hlt⟩⟩
theorem isLists_below {w w' : World} {a : Option Addr} {n cap : Nat} {ad : Nat → Option Addr} {ln cp : Nat → Nat} {f : Nat → Nat → T} (h : IsLists w a n cap ad ln cp f) (hb : Below w.heap.size w w') : IsLists w' a n cap ad ln cp f :=
  ⟨h.1, h.2.1, Sls.below h.2.2.1 hb, fun i hi => isTerms_below (h.2.2.2 i hi) hb⟩
theorem is3_below {w w' : World} {a : Option Addr} {n cap : Nat} {A : Nat → Option Addr} {C : Nat → Nat} {AD : Nat → Nat → Option Addr} {CP : Nat → Nat → Nat} {N : Nat → Nat} {L : Nat → Nat → Nat} {F : Nat → Nat → Nat → T} (h : Is3 w a n cap A C AD CP N L F) (hb : Below w.heap.size w w') : Is3 w' a n cap A C AD CP N L F :=
  ⟨h.1, h.2.1, h.2.2.1.below hb, fun i hi => isLists_below (h.2.2.2 i hi) hb⟩
abbrev B3 (P : Nat) (v0 v1 v2 : Value) (u : World) : Prop := u.cell? ⟨P, 0, none⟩ = some v0 ∧ u.cell? ⟨P, 1, none⟩ = some v1 ∧ u.cell? ⟨P, 2, none⟩ = some v2
theorem B3.below {P : Nat} {v0 v1 v2 : Value} {u u' : World} (h : B3 P v0 v1 v2 u) (hb : Below u.heap.size u u') : B3 P v0 v1 v2 u' :=
  have l := World.block_lt_of_cell? u ⟨P, 0, none⟩ h.1
  ⟨(hb.cell (p := ⟨P, 0, none⟩) l).trans h.1, (hb.cell (p := ⟨P, 1, none⟩) l).trans h.2.1, (hb.cell (p := ⟨P, 2, none⟩) l).trans h.2.2⟩
abbrev B6 (P Q : Nat) (v0 v1 v2 x0 x1 x2 : Value) (u : World) : Prop := u.cell? ⟨P, 0, none⟩ = some v0 ∧ u.cell? ⟨P, 1, none⟩ = some v1 ∧ u.cell? ⟨P, 2, none⟩ = some v2 ∧ u.cell? ⟨Q, 0, none⟩ = some x0 ∧ u.cell? ⟨Q, 1, none⟩ = some x1 ∧ u.cell? ⟨Q, 2, none⟩ = some x2
theorem B6.below {P Q : Nat} {v0 v1 v2 x0 x1 x2 : Value} {u u' : World} (h : B6 P Q v0 v1 v2 x0 x1 x2 u) (hb : Below u.heap.size u u') : B6 P Q v0 v1 v2 x0 x1 x2 u' :=
  have k1 := B3.below (P := P) ⟨h.1, h.2.1, h.2.2.1⟩ hb
  have k2 := B3.below (P := Q) ⟨h.2.2.2.1, h.2.2.2.2.1, h.2.2.2.2.2⟩ hb
  ⟨k1.1, k1.2.1, k1.2.2, k2.1, k2.2.1, k2.2.2⟩
theorem box3 (w : World) (t : TypeId) (v0 v1 v2 : Value) : B3 w.heap.size v0 v1 v2 (w.alloc (.cells #[v0, v1, v2] t)) :=
  ⟨by rw [World.cell?_alloc_at _ _ _ _ rfl]; rfl, by rw [World.cell?_alloc_at _ _ _ _ rfl]; rfl, by rw [World.cell?_alloc_at _ _ _ _ rfl]; rfl⟩
set_option maxRecDepth 100000 in
set_option maxHeartbeats 8000000 in
theorem walk (la : Option Addr) (nb lc : Nat) (ad : Nat → Option Addr) (ln cp : Nat → Nat) (f : Nat → Nat → T) (pa : Option Addr) (np pc : Nat) (A : Nat → Option Addr) (C : Nat → Nat) (AD : Nat → Nat → Option Addr) (CP : Nat → Nat → Nat) (N : Nat → Nat) (L : Nat → Nat → Nat) (F : Nat → Nat → Nat → T) (d : Bool) (a1 : Option Addr) (n1 c1 : Nat) (ad1 : Nat → Option Addr) (ln1 cp1 : Nat → Nat) (f1 : Nat → Nat → T) (w : World) (h0 : IsLists w la nb lc ad ln cp f) (h3 : Is3 w pa np pc A C AD CP N L F) (h1 : IsLists w a1 n1 c1 ad1 ln1 cp1 f1) : Calls Tryz.prog 4 #[.agg #[.slice la nb lc, .slice pa np pc, .bool d], .slice a1 n1 c1] w fun e w' => e = .returned (.bool true) ∧ Below w.heap.size w w' := by
  have q1 : (n1 : Int) ≤ 9223372036854775807 := by have := h1.1; have := h1.2.1; unfold maxLen at this; omega
  have Q3 : Hid (∀ i, i < n1 → (ln1 i : Int) ≤ 9223372036854775807) := fun i hi => by have h := h1.2.2.2 i hi; have := h.1; have := h.2.1; unfold maxLen at this; omega
  have HB0 := Hid.mk' (bel_one w (.cells #[.slice la nb lc, .slice pa np pc, .bool d] 34))
  have I0 := Hid.mk' (isLists_below h0 HB0.out)
  have I3 := Hid.mk' (is3_below h3 HB0.out)
  have I1 := Hid.mk' (isLists_below h1 HB0.out)
  have X0 := Hid.mk' (box3 w 34 (.slice la nb lc) (.slice pa np pc) (.bool d))
  clear h0 h3 h1
  go_enter Tryz.func4, Tryz.ntmps4
  go_wp2_with fail
  generalize (w.alloc (.cells #[.slice la nb lc, .slice pa np pc, .bool d] 34)) = W0 at *
  refine (szBase _ _ _ _ _ _ _ _ _ _ _ _ _ _ _ _ _ d W0 I0.out I3.out).mono ?_
  rintro e wA ⟨z, rfl, hb, hz1, hz⟩
  have HBA := Hid.mk' (bel_next HB0.out hb)
  have HZ := Hid.mk' hz
  have X1 := Hid.mk' (X0.out.below hb)
  have J0 := Hid.mk' (isLists_below I0.out hb)
  have J3 := Hid.mk' (is3_below I3.out hb)
  have J1 := Hid.mk' (isLists_below I1.out hb)
  clear hb hz X0 I0 I3 I1 HB0
  by_cases hneg : z < 0
  · go_wp2
    go_ret
    exact ⟨rfl, HBA.out⟩
  have z0 : 0 ≤ z := by omega
  go_wp2_with fail
  refine (szLists a1 n1 c1 ad1 ln1 cp1 z wA q1 z0 hz1 J1.out.2.2.1 Q3.out).mono ?_
  rintro e w' ⟨y, rfl, hw', hy1, hy⟩
  obtain rfl := hw'.symm
  clear hw' Q3
  by_cases hneg2 : y < 0
  · go_wp2
    go_ret
    exact ⟨rfl, HBA.out⟩
  have hb1 := hy (by omega)
  have hzz := HZ.out z0
  have k1 : n1 * 40 ≤ 140737488351232 := by omega
  have K1 : Hid (∀ i, i < n1 → ln1 i * 40 ≤ 140737488351232) := fun i hi => by have := hb1.2 i hi; omega
  have kn : nb * 40 ≤ 140737488351232 := by have := hzz.1.1; omega
  have Kl : Hid (∀ i, i < nb → ln i * 40 ≤ 140737488351232) := fun i hi => by have := hzz.1.2 i hi; omega
  have kp : np * 40 ≤ 140737488351232 := by have := hzz.2.1; omega
  have KN : Hid (∀ i, i < np → N i * 40 ≤ 140737488351232) := fun i hi => by have := (hzz.2.2 i hi).1; omega
  have KL : Hid (∀ i, i < np → ∀ j, j < N i → L i j * 40 ≤ 140737488351232) := fun i hi j hj => by have := (hzz.2.2 i hi).2 j hj; omega
  have R0 := Hid.mk' (J0.out.rd kn Kl.out)
  have R3 := Hid.mk' (J3.out.rd kp KN.out KL.out)
  have R1 := Hid.mk' (J1.out.rd k1 K1.out)
  clear hy hb1 hzz HZ J0 J3 J1
  have hpr := fun (W : World) (g1 g2 g3 : Nat) (adx : Nat → Option Addr) (Ax : Nat → Option Addr) (ADx : Nat → Nat → Option Addr) (ady : Nat → Option Addr) (r1 : RdS W (some ⟨g1, 0, none⟩) nb nb adx ln ln f) (r2 : Rd3 W (some ⟨g2, 0, none⟩) np np Ax N ADx L N L F) (r3 : RdS W (some ⟨g3, 0, none⟩) n1 n1 ady ln1 ln1 f1) => grbProvesS _ _ _ _ _ _ _ _ _ _ _ _ _ _ _ _ _ d _ _ _ _ _ _ _ W r1 r2 r3
  have hpi := fun (W : World) (g1 g2 g3 : Nat) (adx : Nat → Option Addr) (Ax : Nat → Option Addr) (ADx : Nat → Nat → Option Addr) (ady : Nat → Option Addr) (r1 : RdS W (some ⟨g1, 0, none⟩) nb nb adx ln ln f) (r2 : Rd3 W (some ⟨g2, 0, none⟩) np np Ax N ADx L N L F) (r3 : RdS W (some ⟨g3, 0, none⟩) n1 n1 ady ln1 ln1 f1) => grbProvesI _ _ _ _ _ _ _ _ _ _ _ _ _ _ _ _ _ d _ _ _ _ _ _ _ W r1 r2 r3
  generalize grbProves nb ln f np N L F n1 ln1 f1 = bv at hpr hpi
  have HPR := Hid.mk' hpr
  have HPI := Hid.mk' hpi
  clear hpr hpi
  have hne : (bv != bv) = false := by simp
  obtain ⟨t0, t1, t2⟩ := X1.out
  go_wp2_with fail
  clear t0 t1 t2
  refine (toBase _ _ _ _ _ _ _ _ _ _ _ _ _ _ _ _ _ d wA R0.out R3.out).mono ?_
  rintro e wa ⟨G1, G2, rfl, hb, hcp⟩
  have Ba := Hid.mk' (bel_next HBA.out hb)
  have X2 := Hid.mk' (X1.out.below hb)
  have CPa := Hid.mk' hcp
  have S0 := Hid.mk' (R0.out.below hb)
  have S3 := Hid.mk' (R3.out.below hb)
  have S1 := Hid.mk' (R1.out.below hb)
  clear hb hcp X1 R0 R3 R1
  go_wp2_with fail
  refine (toLists _ _ _ _ _ _ _ _ S1.out).mono ?_
  rintro e wb ⟨BB, rfl, hb, hr, ho⟩
  have Bb := Hid.mk' (bel_next Ba.out hb)
  have X3 := Hid.mk' (X2.out.below hb)
  have CPb := Hid.mk' (CPa.out.below hb)
  have Lb := Hid.mk' (lists_rd hr (fun i hi => (ho i hi).2) k1 K1.out)
  have T0 := Hid.mk' (S0.out.below hb)
  have T3 := Hid.mk' (S3.out.below hb)
  have T1 := Hid.mk' (S1.out.below hb)
  clear hb hr ho X2 CPa S0 S3 S1
  obtain ⟨ady, ry⟩ := CPb.out.1.rd kn Kl.out
  obtain ⟨Ay, ADy, ry3⟩ := CPb.out.2.rd kp KN.out KL.out
  have RY := Hid.mk' ry
  have RY3 := Hid.mk' ry3
  clear ry ry3 CPb
  go_wp2_with fail
  refine (HPR.out wb _ _ _ _ _ _ _ RY.out RY3.out Lb.out).mono ?_
  rintro e wc ⟨rfl, hb⟩
  have Bc := Hid.mk' (bel_next Bb.out hb)
  have X4 := Hid.mk' (X3.out.below hb)
  have U0 := Hid.mk' (T0.out.below hb)
  have U3 := Hid.mk' (T3.out.below hb)
  have U1 := Hid.mk' (T1.out.below hb)
  clear hb X3 T0 T3 T1 RY RY3 Lb HPR
  obtain ⟨t0, t1, t2⟩ := X4.out
  go_wp2_with fail
  clear t0 t1 t2
  refine (toBase _ _ _ _ _ _ _ _ _ _ _ _ _ _ _ _ _ d wc U0.out U3.out).mono ?_
  rintro e wd ⟨H1, H2, rfl, hb, hcp⟩
  have hbb := bel_next hb (bel_one wd (.cells #[.slice (some ⟨H1, 0, none⟩) nb nb, .slice (some ⟨H2, 0, none⟩) np np, .bool d] 41))
  have Bd := Hid.mk' (bel_next Bc.out hbb)
  have X5 := Hid.mk' (X4.out.below hbb)
  have Y5 := Hid.mk' (box3 wd 41 (.slice (some ⟨H1, 0, none⟩) nb nb) (.slice (some ⟨H2, 0, none⟩) np np) (.bool d))
  have CPd := Hid.mk' (hcp.below (bel_one wd (.cells #[.slice (some ⟨H1, 0, none⟩) nb nb, .slice (some ⟨H2, 0, none⟩) np np, .bool d] 41)))
  have V0 := Hid.mk' (U0.out.below hbb)
  have V3 := Hid.mk' (U3.out.below hbb)
  have V1 := Hid.mk' (U1.out.below hbb)
  clear hb hbb hcp X4 U0 U3 U1
  go_wp2_with fail
  generalize (wd.alloc (.cells #[.slice (some ⟨H1, 0, none⟩) nb nb, .slice (some ⟨H2, 0, none⟩) np np, .bool d] 41)) = we at *
  refine (toLists _ _ _ _ _ _ _ _ V1.out).mono ?_
  rintro e wf ⟨BB2, rfl, hb, hr, ho⟩
  have Bf := Hid.mk' (bel_next Bd.out hb)
  have X6 := Hid.mk' (X5.out.below hb)
  have Y6 := Hid.mk' (Y5.out.below hb)
  have CPf := Hid.mk' (CPd.out.below hb)
  have Lf := Hid.mk' (lists_rd hr (fun i hi => (ho i hi).2) k1 K1.out)
  have W0' := Hid.mk' (V0.out.below hb)
  have W3 := Hid.mk' (V3.out.below hb)
  have W1 := Hid.mk' (V1.out.below hb)
  clear hb hr ho X5 Y5 CPd V0 V3 V1
  obtain ⟨ady2, ry⟩ := CPf.out.1.rd kn Kl.out
  obtain ⟨Ay2, ADy2, ry3⟩ := CPf.out.2.rd kp KN.out KL.out
  have RY := Hid.mk' ry
  have RY3 := Hid.mk' ry3
  clear ry ry3
  obtain ⟨t0, t1, t2⟩ := Y6.out
  go_wp2_with fail
  clear t0 t1 t2
  refine (HPI.out wf _ _ _ _ _ _ _ RY.out RY3.out Lf.out).mono ?_
  rintro e wg ⟨rfl, hb⟩
  have Bg := Hid.mk' (bel_next Bf.out hb)
  have X7 := Hid.mk' (X6.out.below hb)
  have Y7 := Hid.mk' (Y6.out.below hb)
  have CPg := Hid.mk' (CPf.out.below hb)
  have Lg := Hid.mk' (Lf.out.below hb)
  have Z0 := Hid.mk' (W0'.out.below hb)
  have Z3 := Hid.mk' (W3.out.below hb)
  have Z1 := Hid.mk' (W1.out.below hb)
  clear hb X6 Y6 CPf Lf W0' W3 W1 RY RY3 HPI
  have Bgd := Hid.mk' Bg.out.drew
  have hS : B6 w.heap.size wd.heap.size (.slice la nb lc) (.slice pa np pc) (.bool d) (.slice (some ⟨H1, 0, none⟩) nb nb) (.slice (some ⟨H2, 0, none⟩) np np) (.bool d) wg.drew := ⟨X7.out.1, X7.out.2.1, X7.out.2.2, Y7.out.1, Y7.out.2.1, Y7.out.2.2⟩
  have dr : Below wg.heap.size wg wg.drew := (Below.refl _ _).drew
  have Z0d := Hid.mk' (Z0.out.below dr)
  have Z3d := Hid.mk' (Z3.out.below dr)
  have Z1d := Hid.mk' (Z1.out.below dr)
  have Lgd := Hid.mk' (Lg.out.below dr)
  have CPgd := Hid.mk' (CPg.out.below dr)
  clear dr X7 Y7 Z0 Z3 Z1 Lg CPg
  go_wp2_with fail
  go_region_held3 (fun u => u.cell? ⟨w.heap.size, 0, none⟩ = some (.slice la nb lc) ∧ u.cell? ⟨w.heap.size, 1, none⟩ = some (.slice pa np pc) ∧ u.cell? ⟨w.heap.size, 2, none⟩ = some (.bool d) ∧ u.cell? ⟨wd.heap.size, 0, none⟩ = some (.slice (some ⟨H1, 0, none⟩) nb nb) ∧ u.cell? ⟨wd.heap.size, 1, none⟩ = some (.slice (some ⟨H2, 0, none⟩) np np) ∧ u.cell? ⟨wd.heap.size, 2, none⟩ = some (.bool d)) (first | with_reducible exact hS | with_reducible exact B6.below hS b1 | with_reducible exact B6.below (B6.below hS b1) b2) (first | (go_at_call 16; refine (toBase _ _ _ _ _ _ _ _ _ _ _ _ _ _ _ _ _ d _ Z0d.out Z3d.out).mono ?_; rintro e wh ⟨I1, I2, rfl, b1, hcp⟩) | (go_at_call 19; refine (eqBase _ _ _ _ _ _ _ _ _ _ _ _ _ _ d (CPgd.out.below b1) hcp kn Kl.out kp KN.out KL.out).mono ?_; rintro e wi ⟨rfl, b2⟩))
  have Bi := Hid.mk' (bel_next (bel_next Bgd.out b1) b2)
  have Li := Hid.mk' ((Lgd.out.below b1).below b2)
  have Zi := Hid.mk' ((Z1d.out.below b1).below b2)
  clear b1 b2 hcp hS
  go_wp2_with fail
  refine (toLists _ _ _ _ _ _ _ _ Zi.out).mono ?_
  rintro e wj ⟨BB3, rfl, hb, hr, ho⟩
  have Bj := Hid.mk' (bel_next Bi.out hb)
  have Lj := Hid.mk' (Li.out.below hb)
  have Mj := Hid.mk' (lists_rd hr (fun i hi => (ho i hi).2) k1 K1.out)
  clear hb hr ho Li Zi
  go_wp2_with fail
  refine (eqLists _ _ _ _ _ _ _ _ _ _ _ _ Lj.out Mj.out).mono ?_
  rintro e wk ⟨rfl, hb⟩
  have Bk := Hid.mk' (bel_next Bj.out hb)
  clear hb
  go_wp2
  go_ret
  exact ⟨rfl, Bk.out⟩
theorem own : ownKnob Tryz.prog.godebug = none := by kernel_rfl
theorem laidOut : laidOutB Tryz.prog = true := by kernel_rfl
set_option maxRecDepth 100000 in
theorem lifted (os : Os) (started : os.Started) (H : Type) (enc : TypeId × Value → H) :
    ReturnsInHanded {} Tryz.checked os 4 .any (Rows.fnExactGrbProvesSpec.pre6 enc Tryz.prog Tryz.f4 Rows.fnExactGrbProvesRow.domain false) (Rows.fnExactGrbProvesSpec.post enc Tryz.prog Tryz.f4 false true false false) := by
  refine returnsInHanded_of_change (C := Tryz.checked) own started (by kernel_rfl) Tryz.func4
    (ChangeSpec.witness6 (enc := enc) (C := Tryz.checked) false ⟨#[], #[.agg #[.slice none 0 0, .slice none 0 0, .bool false], .slice none 0 0], []⟩ 8 (by kernel_rfl) (by kernel_rfl) (by kernel_rfl) (by kernel_rfl)) ?_
  intro W base args ds gs before hval0 hW hcnd _
  have hval : ∀ (j : Nat) t v, Tryz.f4.params[j]? = some t → args[j]? = some v → Value.okWide Tryz.prog W .any base t v := hval0
  have hW' := hW
  obtain ⟨p, q, hA0, hV, rfl, hfz, hnd⟩ := hW
  have hA : DataW.TrodAll enc Tryz.prog W 0 (fun _ => true) true Tryz.f4.params.toList args.toList ds p := hA0
  rw [Tryz.params4] at hA hval
  obtain ⟨v0, vs0, d0, ds0, p0, q0, hargs, rfl, rfl, h0, r0⟩ := trodAll_cons hA
  obtain ⟨v1, vs1, d1, ds1, p1, q1, rfl, rfl, rfl, h1, r1⟩ := trodAll_cons r0
  obtain ⟨rfl, rfl, rfl⟩ := trodAll_nil r1
  obtain rfl : args = #[v0, v1] := by cases args; simp_all
  obtain ⟨rfl, rfl⟩ := trodVars_none hV
  have k0 := h0
  have lt0 : ∀ x ∈ p0, x.block < W.heap.size := by obtain ⟨m, hm⟩ := k0; exact DataW.trod_lt m _ _ _ hm
  obtain ⟨la0, nb0, lc0, bad0, bln0, bcp0, bf0, pa0, np0, pc0, A0, C0, AD0, CP0, N0, L0, F0, dn0, rfl, w0, v0w⟩ := base_open (hval 0 34 v0 rfl rfl) h0
  obtain ⟨a1, n1, c1, rfl⟩ := okWide_slice Tryz.underlying31 (hval 1 31 v1 rfl rfl)
  have k1 := h1
  have lt1 : ∀ x ∈ p1, x.block < W.heap.size := by obtain ⟨m, hm⟩ := k1; exact DataW.trod_lt m _ _ _ hm
  obtain ⟨ad1, ln1, cp1, f1, w1⟩ : ∃ ad ln cp f, IsLists W a1 n1 c1 ad ln cp f := by
    obtain ⟨fuel, hf⟩ := h1
    exact lists_open hf
  clear hA0 hval0
  refine (walk la0 nb0 lc0 bad0 bln0 bcp0 bf0 pa0 np0 pc0 A0 C0 AD0 CP0 N0 L0 F0 dn0 a1 n1 c1 ad1 ln1 cp1 f1 W w0 v0w w1).mono fun e W' ⟨he, bel⟩ => ?_
  subst he
  exact ⟨_, rfl, _, _, _, [], _, [], hW', trodAll_mk1 (shut_bool Tryz.underlying4 _), (trodAll_cons_mk (Below.trod laidOut (by kernel_rfl) (of_decide_eq_true (by kernel_rfl)) k0 bel lt0) (trodAll_cons_mk (Below.trod laidOut (by kernel_rfl) (of_decide_eq_true (by kernel_rfl)) k1 bel lt1) trodAll_mk0)), rfl, bel.frame _, fun h => by cases h⟩
theorem over : Rows.fnExactGrbProvesRow.holds Tryz.pinned (OpenSpec.ofChange Rows.fnExactGrbProvesSpec) :=
  OpenClaim.holds_of_wide 4 Tryz.f4 rfl rfl rfl rfl rfl rfl rfl ⟨rfl, rfl, rfl, rfl, rfl⟩ rfl rfl rfl rfl rfl (by kernel_rfl) Tryz.func4 (by kernel_rfl)
    (of_decide_eq_true (by kernel_rfl)) (by unfold Func.isWrapper; first | (rw [if_pos (by decide +kernel)]; kernel_rfl) | (rw [if_neg (by decide +kernel)]; exact ⟨rfl, rfl⟩))
    (fun os started H enc _ => lifted os started H enc)
end Go.Proofs.YtllfgoepfeoclaaGreat.fnExactGrbProves
namespace Go.Proofs.YtllfgoepfeoclaaGreat
theorem fnExactGrbProves_holds : Rows.FnExactGrbProvesSaid := fnExactGrbProves.over
#print axioms fnExactGrbProves_holds
end Go.Proofs.YtllfgoepfeoclaaGreat
