/-
  RedAll, of the program and of the model: one answer.
  What is left of a pair of operators: the program and the model.
  GrbIn: the program and the model.
-/
import Derived.Test.YtdidlcjhodejjaaGreatSbl
import Derived.Test.YtdidlcjhodejjaaGreatSbd
namespace Go.Proofs.YtdidlcjhodejjaaGreat
open Go.RowKit Go.Deep Go.Joins Go.Maps
set_option linter.unusedVariables false

def resN (n : Nat) : Option Dv → Nat
  | some _ => n
  | none => 0
def resQ : Option Dv → Nat → List T
  | some S => S.q
  | none => fun _ => []
def resL : Option Dv → List T
  | some S => S.r
  | none => []
theorem res_bd {o : Int} {p : List T} {n : Nat} {ln : Nat → Nat} {f : Nat → Nat → T} : resN n (redAll o p n ln f) ≤ 12 ∧ (∀ i, (resQ (redAll o p n ln f) i).length ≤ 300) ∧ (resL (redAll o p n ln f)).length ≤ 300 := by
  unfold redAll
  split
  · rename_i h
    have n12 := (lstOk_all h.2.2).1
    cases e : dvRun o n ln f 300 (dvOf p) with
    | none => exact ⟨Nat.zero_le _, fun i => Nat.zero_le _, Nat.zero_le _⟩
    | some S =>
      obtain ⟨h1, _⟩ := dvRun_ok h.2.2 (DvOk.start h.2.1) e
      exact ⟨n12, fun i => by have := (h1.q i).2; show (S.q i).length ≤ 300; omega, by have := h1.r.2; show S.r.length ≤ 300; omega⟩
  · exact ⟨Nat.zero_le _, fun i => Nat.zero_le _, Nat.zero_le _⟩
theorem redAllI' (w : World) (o : Int) (pa : Option Addr) (pc : Nat) (p : List T) (a : Option Addr) (n cap : Nat) (ad : Nat → Option Addr) (ln cp : Nat → Nat) (f : Nat → Nat → T) (hp : RL w pa pc p) (h : RdS w a n cap ad ln cp f) {R : Option Dv} (hR : redAll o p n ln f = R) :
    Calls Tryz.prog 69 #[.int .i64 o, .slice pa p.length pc, .slice a n cap] w fun r w' => ∃ qa qc ad cp Rb B la lc mid, r = .returned (.tuple #[.slice qa (resN n R) qc, .slice la (resL R).length lc, .bool R.isSome]) ∧ Below w.heap.size w w' ∧ OutS w.heap.size w' qa (resN n R) qc ad (fun i => (resQ R i).length) cp (fun i => lf (resQ R i)) Rb B ∧ Out mid w' la lc (resL R) ∧ (resN n R = 0 ∨ Rb < mid) ∧ (∀ i, i < resN n R → (resQ R i).length ≠ 0 → B i < mid) ∧ w.heap.size ≤ mid := by
  refine (redAllI w o pa pc p a n cap ad ln cp f hp h).mono ?_
  rw [hR]
  rintro r w' ⟨hb, ⟨S, qa, qc, ad, cp, Rb, B, la, lc, mid, rfl, rfl, h1, h2, h3, h4, h5⟩ | ⟨rfl, rfl⟩⟩
  · exact ⟨qa, qc, ad, cp, Rb, B, la, lc, mid, rfl, hb, h1, h2, h3, h4, h5⟩
  · exact ⟨none, 0, fun _ => none, fun _ => 0, 0, fun _ => 0, none, 0, w.heap.size, rfl, hb, ⟨⟨Nat.le_refl _, Nat.zero_le _, .inl rfl, fun i hi => absurd hi (Nat.not_lt_zero _)⟩, .inl rfl, fun i hi => absurd hi (Nat.not_lt_zero _), fun i hi => absurd hi (Nat.not_lt_zero _), fun i j _ hj => absurd hj (Nat.not_lt_zero _)⟩, ⟨⟨Nat.le_refl _, Nat.zero_le _, .inl rfl⟩, .inl rfl, .inl rfl⟩, .inl rfl, fun i hi => absurd hi (Nat.not_lt_zero _), Nat.le_refl _⟩
end Go.Proofs.YtdidlcjhodejjaaGreat
namespace Go.Proofs.YtdidlcjhodejjaaGreat
open Go.RowKit Go.Deep Go.Joins
set_option linter.unusedVariables false
set_option maxRecDepth 100000 in
set_option maxHeartbeats 8000000 in
theorem sprPolyS (w : World) (o : Int) (a b : Option Addr) (n ca m cb : Nat) (f g : Nat → T) (ha : Rd w a n ca f) (hb : Rd w b m cb g) :
    Calls Tryz.prog 137 #[.int .i64 o, .slice a n ca, .slice b m cb] w fun r w' => ∃ v, r = .returned (.tuple #[v, .bool (sprPoly o f n g m).2]) ∧ Below w.heap.size w w' ∧ w'.ownsRow w.heap.size 42 5 v (sprPoly o f n g m).1.length (cellsL (sprPoly o f n g m).1) := by
  have HA := Hid.mk' ha
  have HB := Hid.mk' hb
  have hla : (n : Int) ≤ 140737488351232 := by have := ha.2.1; omega
  have hlb : (m : Int) ≤ 140737488351232 := by have := hb.2.1; omega
  have hcall := sprTermsS w o a n ca f b m cb g ha hb
  clear ha hb
  unfold sprPoly
  obtain ⟨U, hU⟩ : ∃ U, sprU o n f m g = U := ⟨_, rfl⟩
  obtain ⟨V, hV⟩ : ∃ V, sprV o n f m g = V := ⟨_, rfl⟩
  cases hok : sprOk o n f m g
  · rw [hU, hV, hok] at hcall
    rw [if_neg (by simp)]
    clear hU hV hok
    go_enter Tryz.func137, Tryz.ntmps137
    go_wp2_with fail
    refine hcall.mono ?_
    rintro r w1 ⟨rfl, hb1⟩
    have HB1 := Hid.mk' hb1
    clear hb1 hcall
    have HB2 := Hid.mk' (HB1.out.alloc HB1.out.size (.cells #[.int .i64 U.c, .int .i64 U.m.x, .int .i64 U.m.y, .int .i64 U.m.d, .int .i64 U.m.e] 42))
    have HB3 := Hid.mk' (HB2.out.alloc HB2.out.size (.cells #[.int .i64 V.c, .int .i64 V.m.x, .int .i64 V.m.y, .int .i64 V.m.d, .int .i64 V.m.e] 42))
    have hnn := owns_none ((w1.alloc (.cells #[.int .i64 U.c, .int .i64 U.m.x, .int .i64 U.m.y, .int .i64 U.m.d, .int .i64 U.m.e] 42)).alloc (.cells #[.int .i64 V.c, .int .i64 V.m.x, .int .i64 V.m.y, .int .i64 V.m.d, .int .i64 V.m.e] 42)) w.heap.size HB3.out.size
    rw [World.size_alloc, World.size_alloc] at hnn
    have HNN := Hid.mk' hnn
    clear hnn
    go_wp2
    refine bodyPost_ret (results_tmp2 rfl _ _ _) rfl ?_
    exact ⟨_, rfl, HB3.out.alloc HB3.out.size _, HNN.out⟩
  · obtain ⟨gU, gV⟩ := spr_good hok
    have hk := hok
    unfold sprOk at hk
    rw [Bool.and_eq_true] at hk
    have p1 := (leadOk_parts hk.1).2.1
    have p2 := (leadOk_parts hk.2).2.1
    rw [hU] at gU
    rw [hV] at gV
    rw [hU, hV, hok] at hcall
    rw [if_pos rfl, hU, hV, less_diff gU gV p1 p2]
    obtain ⟨l1, g1⟩ := good_ok p1
    have gs : Good (lf [U]) 1 := fun i hi => by
      obtain rfl : i = 0 := by omega
      exact ⟨gU.1, by show 0 ≤ U.c; omega, gU.2.2⟩
    have hm := fun (W : World) (A : Nat) (h : RL W (some ⟨A, 0, none⟩) 1 [U]) (h' : Rd W a n ca f) => mulS4 W (some ⟨A, 0, none⟩) a 1 1 n ca (lf [U]) f h h' (by omega) l1 gs g1
    have HGS := Hid.mk' gs
    have HG1 := Hid.mk' g1
    have HP2 := Hid.mk' p2
    have HGV := Hid.mk' gV
    clear hU hV hok hk gU gV gs g1 p1 p2
    cases hX : mulM (lf [U]) f n 1 with
    | none =>
      rw [hX] at hm
      simp only [mulO] at hm
      go_enter Tryz.func137, Tryz.ntmps137
      go_wp2_with fail
      refine hcall.mono ?_
      rintro r w1 ⟨rfl, hb1⟩
      have HB1 := Hid.mk' hb1
      clear hb1 hcall
      have HB2 := Hid.mk' (HB1.out.alloc HB1.out.size (.cells #[.int .i64 U.c, .int .i64 U.m.x, .int .i64 U.m.y, .int .i64 U.m.d, .int .i64 U.m.e] 42))
      have HB3 := Hid.mk' (HB2.out.alloc HB2.out.size (.cells #[.int .i64 V.c, .int .i64 V.m.x, .int .i64 V.m.y, .int .i64 V.m.d, .int .i64 V.m.e] 42))
      have HB4 := Hid.mk' (HB3.out.alloc HB3.out.size (.cells #[.int .i64 U.c, .int .i64 U.m.x, .int .i64 U.m.y, .int .i64 U.m.d, .int .i64 U.m.e] 42))
      have hru := one_RL ((w1.alloc (.cells #[.int .i64 U.c, .int .i64 U.m.x, .int .i64 U.m.y, .int .i64 U.m.d, .int .i64 U.m.e] 42)).alloc (.cells #[.int .i64 V.c, .int .i64 V.m.x, .int .i64 V.m.y, .int .i64 V.m.d, .int .i64 V.m.e] 42)) U
      rw [World.size_alloc, World.size_alloc] at hru
      have HRU := Hid.mk' hru
      clear hru
      go_wp2_with fail
      refine (hm _ _ HRU.out (HA.out.below HB4.out)).mono ?_
      rintro r w2 ⟨v2, rfl, hb2, ho2⟩
      have HB5 := Hid.mk' (bel_next HB4.out hb2)
      clear hb2 ho2 hm
      go_wp2
      refine bodyPost_ret (results_tmp2 rfl _ _ _) rfl ?_
      exact ⟨_, rfl, HB5.out.alloc HB5.out.size _, owns_none _ w.heap.size HB5.out.size⟩
    | some X =>
      have fX := mulM_falls2 HGS.out HG1.out 1 X (Nat.le_refl _) hX
      have lX := mulM_len 1 X hX
      have HFX := Hid.mk' fX
      rw [hX] at hm
      simp only [mulO] at hm
      have hless := fun (W : World) (pa : Option Addr) (pc : Nat) (h : RL W pa pc X) (h' : Rd W b m cb g) => l7LessS W pa pc X V b m cb g h lX HFX.out HGV.out h' HP2.out
      dsimp only
      generalize lessV X V g m = D at hless ⊢
      clear fX hX
      go_enter Tryz.func137, Tryz.ntmps137
      go_wp2_with fail
      refine hcall.mono ?_
      rintro r w1 ⟨rfl, hb1⟩
      have HB1 := Hid.mk' hb1
      clear hb1 hcall
      have HB2 := Hid.mk' (HB1.out.alloc HB1.out.size (.cells #[.int .i64 U.c, .int .i64 U.m.x, .int .i64 U.m.y, .int .i64 U.m.d, .int .i64 U.m.e] 42))
      have HC3 := Hid.mk' (C5.box (w1.alloc (.cells #[.int .i64 U.c, .int .i64 U.m.x, .int .i64 U.m.y, .int .i64 U.m.d, .int .i64 U.m.e] 42)) 42 V)
      have HB3 := Hid.mk' (HB2.out.alloc HB2.out.size (.cells #[.int .i64 V.c, .int .i64 V.m.x, .int .i64 V.m.y, .int .i64 V.m.d, .int .i64 V.m.e] 42))
      have HB4 := Hid.mk' (HB3.out.alloc HB3.out.size (.cells #[.int .i64 U.c, .int .i64 U.m.x, .int .i64 U.m.y, .int .i64 U.m.d, .int .i64 U.m.e] 42))
      have hru := one_RL ((w1.alloc (.cells #[.int .i64 U.c, .int .i64 U.m.x, .int .i64 U.m.y, .int .i64 U.m.d, .int .i64 U.m.e] 42)).alloc (.cells #[.int .i64 V.c, .int .i64 V.m.x, .int .i64 V.m.y, .int .i64 V.m.d, .int .i64 V.m.e] 42)) U
      rw [World.size_alloc, World.size_alloc] at hru
      have HRU := Hid.mk' hru
      clear hru
      go_wp2_with fail
      refine (hm _ _ HRU.out (HA.out.below HB4.out)).mono ?_
      rintro r w2 ⟨v2, rfl, hb2, ho2⟩
      obtain ⟨a2, c2, rfl, hout⟩ := out_of_owns ho2 (by omega)
      have HB5 := Hid.mk' (bel_next HB4.out hb2)
      have hC5 := (HC3.out.below (bel_one _ (.cells #[.int .i64 U.c, .int .i64 U.m.x, .int .i64 U.m.y, .int .i64 U.m.d, .int .i64 U.m.e] 42))).below hb2
      have HX2 := Hid.mk' hout.1
      rw [World.size_alloc] at hC5
      obtain ⟨r0, r1, r2, r3, r4⟩ := hC5
      clear hb2 ho2 hm hout
      go_wp2_with fail
      clear r0 r1 r2 r3 r4
      refine (hless _ _ _ HX2.out (HB.out.below HB5.out)).mono ?_
      rintro r w3 ⟨v3, rfl, hb3, ho3⟩
      have HB6 := Hid.mk' (bel_next HB5.out hb3)
      have HO6 := Hid.mk' (ownsRow_low ho3 HB5.out.size)
      clear hb3 ho3
      go_wp2
      refine bodyPost_ret (results_tmp2 rfl _ _ _) rfl ?_
      exact ⟨_, rfl, HB6.out, HO6.out⟩
end Go.Proofs.YtdidlcjhodejjaaGreat
namespace Go.Proofs.YtdidlcjhodejjaaGreat
open Go.RowKit Go.Deep Go.Joins Go.Maps
set_option linter.unusedVariables false

end Go.Proofs.YtdidlcjhodejjaaGreat
