/-
  RedAll, of the program and of the model: one answer.
  What is left of a pair of operators: the program and the model.
  GrbIn: the program and the model.
-/
import Derived.Test.YtmlaedpamobmhaaGreatPbl
import Derived.Test.YtmlaedpamobmhaaGreatPbd
namespace Go.Proofs.YtmlaedpamobmhaaGreat
open Go.RowKit Go.Deep Go.Joins Go.Maps
set_option linter.unusedVariables false

end Go.Proofs.YtmlaedpamobmhaaGreat
namespace Go.Proofs.YtmlaedpamobmhaaGreat
open Go.RowKit Go.Deep Go.Joins
set_option linter.unusedVariables false
set_option maxRecDepth 100000 in
set_option maxHeartbeats 8000000 in
theorem sprPolyS (w : World) (o : Int) (a b : Option Addr) (n ca m cb : Nat) (f g : Nat → T) (ha : Rd w a n ca f) (hb : Rd w b m cb g) :
    Calls Tryz.prog 56 #[.int .i64 o, .slice a n ca, .slice b m cb] w fun r w' => ∃ v, r = .returned (.tuple #[v, .bool (sprPoly o f n g m).2]) ∧ Below w.heap.size w w' ∧ w'.ownsRow w.heap.size 54 5 v (sprPoly o f n g m).1.length (cellsL (sprPoly o f n g m).1) := by
  have HA := Hid.mk' ha
  have HB := Hid.mk' hb
  have hla : (n : Int) ≤ 140737488351232 := by have := ha.2.1; omega
  have hlb : (m : Int) ≤ 140737488351232 := by have := hb.2.1; omega
  have hcall := sprTermsS w o a n ca f b m cb g ha hb
  clear ha hb
  unfold sprPoly
  obtain ⟨U, hU⟩ : ∃ U, sprU o n f m g = U := ⟨_, rfl⟩
  obtain ⟨V, hV⟩ : ∃ V, sprV o n f m g = V := ⟨_, rfl⟩
  cases hok : sprOk o n f m g
  · rw [hU, hV, hok] at hcall
    rw [if_neg (by simp)]
    clear hU hV hok
    go_enter Tryz.func56, Tryz.ntmps56
    go_wp2_with fail
    refine hcall.mono ?_
    rintro r w1 ⟨rfl, hb1⟩
    have HB1 := Hid.mk' hb1
    clear hb1 hcall
    have HB2 := Hid.mk' (HB1.out.alloc HB1.out.size (.cells #[.int .i64 U.c, .int .i64 U.m.x, .int .i64 U.m.y, .int .i64 U.m.d, .int .i64 U.m.e] 54))
    have HB3 := Hid.mk' (HB2.out.alloc HB2.out.size (.cells #[.int .i64 V.c, .int .i64 V.m.x, .int .i64 V.m.y, .int .i64 V.m.d, .int .i64 V.m.e] 54))
    have hnn := owns_none ((w1.alloc (.cells #[.int .i64 U.c, .int .i64 U.m.x, .int .i64 U.m.y, .int .i64 U.m.d, .int .i64 U.m.e] 54)).alloc (.cells #[.int .i64 V.c, .int .i64 V.m.x, .int .i64 V.m.y, .int .i64 V.m.d, .int .i64 V.m.e] 54)) w.heap.size HB3.out.size
    rw [World.size_alloc, World.size_alloc] at hnn
    have HNN := Hid.mk' hnn
    clear hnn
    go_wp2
    refine bodyPost_ret (results_tmp2 rfl _ _ _) rfl ?_
    exact ⟨_, rfl, HB3.out.alloc HB3.out.size _, HNN.out⟩
  · obtain ⟨gU, gV⟩ := spr_good hok
    have hk := hok
    unfold sprOk at hk
    rw [Bool.and_eq_true] at hk
    have p1 := (leadOk_parts hk.1).2.1
    have p2 := (leadOk_parts hk.2).2.1
    rw [hU] at gU
    rw [hV] at gV
    rw [hU, hV, hok] at hcall
    rw [if_pos rfl, hU, hV, less_diff gU gV p1 p2]
    obtain ⟨l1, g1⟩ := good_ok p1
    have gs : Good (lf [U]) 1 := fun i hi => by
      obtain rfl : i = 0 := by omega
      exact ⟨gU.1, by show 0 ≤ U.c; omega, gU.2.2⟩
    have hm := fun (W : World) (A : Nat) (h : RL W (some ⟨A, 0, none⟩) 1 [U]) (h' : Rd W a n ca f) => mulS4 W (some ⟨A, 0, none⟩) a 1 1 n ca (lf [U]) f h h' (by omega) l1 gs g1
    have HGS := Hid.mk' gs
    have HG1 := Hid.mk' g1
    have HP2 := Hid.mk' p2
    have HGV := Hid.mk' gV
    clear hU hV hok hk gU gV gs g1 p1 p2
    cases hX : mulM (lf [U]) f n 1 with
    | none =>
      rw [hX] at hm
      simp only [mulO] at hm
      go_enter Tryz.func56, Tryz.ntmps56
      go_wp2_with fail
      refine hcall.mono ?_
      rintro r w1 ⟨rfl, hb1⟩
      have HB1 := Hid.mk' hb1
      clear hb1 hcall
      have HB2 := Hid.mk' (HB1.out.alloc HB1.out.size (.cells #[.int .i64 U.c, .int .i64 U.m.x, .int .i64 U.m.y, .int .i64 U.m.d, .int .i64 U.m.e] 54))
      have HB3 := Hid.mk' (HB2.out.alloc HB2.out.size (.cells #[.int .i64 V.c, .int .i64 V.m.x, .int .i64 V.m.y, .int .i64 V.m.d, .int .i64 V.m.e] 54))
      have HB4 := Hid.mk' (HB3.out.alloc HB3.out.size (.cells #[.int .i64 U.c, .int .i64 U.m.x, .int .i64 U.m.y, .int .i64 U.m.d, .int .i64 U.m.e] 54))
      have hru := one_RL ((w1.alloc (.cells #[.int .i64 U.c, .int .i64 U.m.x, .int .i64 U.m.y, .int .i64 U.m.d, .int .i64 U.m.e] 54)).alloc (.cells #[.int .i64 V.c, .int .i64 V.m.x, .int .i64 V.m.y, .int .i64 V.m.d, .int .i64 V.m.e] 54)) U
      rw [World.size_alloc, World.size_alloc] at hru
      have HRU := Hid.mk' hru
      clear hru
      go_wp2_with fail
      refine (hm _ _ HRU.out (HA.out.below HB4.out)).mono ?_
      rintro r w2 ⟨v2, rfl, hb2, ho2⟩
      have HB5 := Hid.mk' (bel_next HB4.out hb2)
      clear hb2 ho2 hm
      go_wp2
      refine bodyPost_ret (results_tmp2 rfl _ _ _) rfl ?_
      exact ⟨_, rfl, HB5.out.alloc HB5.out.size _, owns_none _ w.heap.size HB5.out.size⟩
    | some X =>
      have fX := mulM_falls2 HGS.out HG1.out 1 X (Nat.le_refl _) hX
      have lX := mulM_len 1 X hX
      have HFX := Hid.mk' fX
      rw [hX] at hm
      simp only [mulO] at hm
      have hless := fun (W : World) (pa : Option Addr) (pc : Nat) (h : RL W pa pc X) (h' : Rd W b m cb g) => l7LessS W pa pc X V b m cb g h lX HFX.out HGV.out h' HP2.out
      dsimp only
      generalize lessV X V g m = D at hless ⊢
      clear fX hX
      go_enter Tryz.func56, Tryz.ntmps56
      go_wp2_with fail
      refine hcall.mono ?_
      rintro r w1 ⟨rfl, hb1⟩
      have HB1 := Hid.mk' hb1
      clear hb1 hcall
      have HB2 := Hid.mk' (HB1.out.alloc HB1.out.size (.cells #[.int .i64 U.c, .int .i64 U.m.x, .int .i64 U.m.y, .int .i64 U.m.d, .int .i64 U.m.e] 54))
      have HC3 := Hid.mk' (C5.box (w1.alloc (.cells #[.int .i64 U.c, .int .i64 U.m.x, .int .i64 U.m.y, .int .i64 U.m.d, .int .i64 U.m.e] 54)) 54 V)
      have HB3 := Hid.mk' (HB2.out.alloc HB2.out.size (.cells #[.int .i64 V.c, .int .i64 V.m.x, .int .i64 V.m.y, .int .i64 V.m.d, .int .i64 V.m.e] 54))
      have HB4 := Hid.mk' (HB3.out.alloc HB3.out.size (.cells #[.int .i64 U.c, .int .i64 U.m.x, .int .i64 U.m.y, .int .i64 U.m.d, .int .i64 U.m.e] 54))
      have hru := one_RL ((w1.alloc (.cells #[.int .i64 U.c, .int .i64 U.m.x, .int .i64 U.m.y, .int .i64 U.m.d, .int .i64 U.m.e] 54)).alloc (.cells #[.int .i64 V.c, .int .i64 V.m.x, .int .i64 V.m.y, .int .i64 V.m.d, .int .i64 V.m.e] 54)) U
      rw [World.size_alloc, World.size_alloc] at hru
      have HRU := Hid.mk' hru
      clear hru
      go_wp2_with fail
      refine (hm _ _ HRU.out (HA.out.below HB4.out)).mono ?_
      rintro r w2 ⟨v2, rfl, hb2, ho2⟩
      obtain ⟨a2, c2, rfl, hout⟩ := out_of_owns ho2 (by omega)
      have HB5 := Hid.mk' (bel_next HB4.out hb2)
      have hC5 := (HC3.out.below (bel_one _ (.cells #[.int .i64 U.c, .int .i64 U.m.x, .int .i64 U.m.y, .int .i64 U.m.d, .int .i64 U.m.e] 54))).below hb2
      have HX2 := Hid.mk' hout.1
      rw [World.size_alloc] at hC5
      obtain ⟨r0, r1, r2, r3, r4⟩ := hC5
      clear hb2 ho2 hm hout
      go_wp2_with fail
      clear r0 r1 r2 r3 r4
      refine (hless _ _ _ HX2.out (HB.out.below HB5.out)).mono ?_
      rintro r w3 ⟨v3, rfl, hb3, ho3⟩
      have HB6 := Hid.mk' (bel_next HB5.out hb3)
      have HO6 := Hid.mk' (ownsRow_low ho3 HB5.out.size)
      clear hb3 ho3
      go_wp2
      refine bodyPost_ret (results_tmp2 rfl _ _ _) rfl ?_
      exact ⟨_, rfl, HB6.out, HO6.out⟩
end Go.Proofs.YtmlaedpamobmhaaGreat
namespace Go.Proofs.YtmlaedpamobmhaaGreat
open Go.RowKit Go.Deep Go.Joins Go.Maps
set_option linter.unusedVariables false

end Go.Proofs.YtmlaedpamobmhaaGreat
