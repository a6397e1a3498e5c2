/-
  What is needed, and whether it ends: the program's panic and recover.
  What is left of a pair of operators: the program and the model.
  A division on its way, as lists: what a step does, and what stays true.
-/
import Derived.Test.YtehlfifplhnceaaGreatGba
import Derived.Shelf.Abstract
import Derived.Defers
import Derived.Recover
import Derived.Test.YtehlfifplhnceaaGreatGbd
import Derived.Test.YtehlfifplhnceaaGreatGbc
import Derived.Test.YtehlfifplhnceaaGreatGbb
import Derived.Test.YtehlfifplhnceaaGreatGbe
namespace Go.Proofs.YtehlfifplhnceaaGreat
open Go.RowKit Go.Deep Go.Joins
set_option linter.unusedVariables false

abbrev tooMuch : Value := .iface 110 (.agg #[])
set_option maxHeartbeats 1000000 in
theorem redNeed_yes (v : Value) (w : World) : Calls Tryz.prog 74 #[v, .bool true] w fun r w' => r = .returned v ∧ w' = w := by
  go_enter Tryz.func74, Tryz.ntmps74
  go_wp2
  go_ret
  exact ⟨rfl, rfl⟩
set_option maxHeartbeats 1000000 in
theorem redNeed_no (v : Value) (w : World) : Calls Tryz.prog 74 #[v, .bool false] w fun r w' => r = .panicked [{ v := tooMuch, recovered := false }] ∧ w' = w := by
  go_enter Tryz.func74, Tryz.ntmps74
  go_wp2
  exact ⟨rfl, rfl, rfl⟩
theorem ta_nil (t : TypeId) (w : World) : (Instr.typeAssert Value.nilIface t 110 true).run Tryz.prog w = .ok (.tuple #[.agg #[], .bool false]) w := by kernel_rfl
theorem ta_much (t : TypeId) (w : World) : (Instr.typeAssert tooMuch t 110 true).run Tryz.prog w = .ok (.tuple #[.agg #[], .bool true]) w := by kernel_rfl
theorem ne_nil (w : World) : (binOp BinOp.neq 20 Value.nilIface Value.nilIface).run Tryz.prog w = .ok (.bool false) w := by kernel_rfl
theorem ne_much (w : World) : (binOp BinOp.neq 20 tooMuch Value.nilIface).run Tryz.prog w = .ok (.bool true) w := by kernel_rfl
set_option maxRecDepth 100000 in
set_option maxHeartbeats 2000000 in
theorem ends1_idle (w : World) : CallsD Tryz.prog 73 #[] .returning w fun e u' w' => e = .returned (.tuple #[]) ∧ u' = .returning ∧ w' = w.alloc (.cells #[] 110) := by
  refine callsD_of_wpS Tryz.func73 rfl fun c₀ cs hu => ?_
  apply wpS_seq
  apply wpS_region
  simp [wpOpsS, go_sem, recoverD, hu, Tryz.ntmps73, Exit.thenS]
  simp only [Array.replicate]
  refine wpS_of_wp ?_
  have h1 := ta_nil
  have h2 := ta_much
  have h3 := ne_nil
  have h4 := ne_much
  go_wp2
  cases c₀
  simp_all [bodyPostS, results, Tryz.results73]
set_option maxRecDepth 100000 in
set_option maxHeartbeats 2000000 in
theorem ends1_caught (w : World) : CallsD Tryz.prog 73 #[] (.panicking [{ v := tooMuch, recovered := false }]) w fun e u' w' => e = .returned (.tuple #[]) ∧ u' = .panicking [{ v := tooMuch, recovered := true }] ∧ w' = w.alloc (.cells #[] 110) := by
  refine callsD_of_wpS Tryz.func73 rfl fun c₀ cs hu => ?_
  apply wpS_seq
  apply wpS_region
  simp [wpOpsS, go_sem, recoverD, hu, Tryz.ntmps73, Exit.thenS]
  simp only [Array.replicate]
  refine wpS_of_wp ?_
  have h1 := ta_nil
  have h2 := ta_much
  have h3 := ne_nil
  have h4 := ne_much
  go_wp2
  cases c₀
  simp_all [bodyPostS, results, Tryz.results73]
set_option maxRecDepth 100000 in
set_option maxHeartbeats 2000000 in
theorem redEnds_yes (g : Nat) (lb : Array Value) (w : World) (Q : World → Prop) (eg : ∀ args w, (callFunc g args).run Tryz.prog w = .ok (.enter g args) w) (h : Calls Tryz.prog g lb w fun r w' => r = .returned (.tuple #[]) ∧ Q w') :
    Calls Tryz.prog 34 #[.func (.func g) #[] lb] w fun r w' => r = .returned (.bool true) ∧ ∃ w1, Q w1 ∧ w' = w1.alloc (.cells #[] 110) := by
  have HC := Hid.mk' h
  clear h
  go_enter_defers Tryz.func34, Tryz.ntmps34
  go_wp2_with fail
  refine HC.out.mono ?_
  rintro r w1 ⟨rfl, hq⟩
  have HQ := Hid.mk' hq
  clear hq HC
  go_wp2
  refine leaves_cons (f := 73) (args := #[]) (by simp) (by simp [go_sem]) ?_
  refine (ends1_idle _).mono ?_
  rintro e u' w'' ⟨rfl, rfl, rfl⟩
  simp [Leaves, settle, results, Tryz.results34, go_sem]
  exact ⟨w1, HQ.out, rfl⟩
set_option maxRecDepth 100000 in
set_option maxHeartbeats 2000000 in
theorem redEnds_no (g : Nat) (lb : Array Value) (w : World) (Q : World → Prop) (eg : ∀ args w, (callFunc g args).run Tryz.prog w = .ok (.enter g args) w) (h : Calls Tryz.prog g lb w fun r w' => r = .panicked [{ v := tooMuch, recovered := false }] ∧ Q w') :
    Calls Tryz.prog 34 #[.func (.func g) #[] lb] w fun r w' => r = .returned (.bool false) ∧ ∃ w1, Q w1 ∧ w' = w1.alloc (.cells #[] 110) := by
  have HC := Hid.mk' h
  clear h
  go_enter_defers Tryz.func34, Tryz.ntmps34
  go_wp2_with fail
  refine HC.out.mono ?_
  rintro r w1 ⟨rfl, hq⟩
  have HQ := Hid.mk' hq
  clear hq HC
  go_wp2
  refine leaves_cons (f := 73) (args := #[]) (by simp) (by simp [go_sem]) ?_
  refine (ends1_caught _).mono ?_
  rintro e u' w'' ⟨rfl, rfl, rfl⟩
  simp [Leaves, settle, results, Tryz.results34, go_sem]
  exact ⟨w1, HQ.out, rfl⟩
end Go.Proofs.YtehlfifplhnceaaGreat
namespace Go.Proofs.YtehlfifplhnceaaGreat
open Go.RowKit Go.Deep Go.Joins
set_option linter.unusedVariables false
set_option maxRecDepth 100000 in
set_option maxHeartbeats 8000000 in
theorem diffI (w : World) (u v : T) (a b : Option Addr) (n ca m cb : Nat) (f g : Nat → T) (ha : Rd w a n ca f) (hb : Rd w b m cb g) :
    Calls Tryz.prog 75 #[.agg #[.int .i64 u.c, .int .i64 u.m.x, .int .i64 u.m.y, .int .i64 u.m.d, .int .i64 u.m.e, .int .i64 v.c, .int .i64 v.m.x, .int .i64 v.m.y, .int .i64 v.m.d, .int .i64 v.m.e], .slice a n ca, .slice b m cb] w fun r w' => ∃ a' cap', r = .returned (.tuple #[.slice a' (diffV u v f n g m).1.length cap', .bool (diffV u v f n g m).2]) ∧ Below w.heap.size w w' ∧ Out w.heap.size w' a' cap' (diffV u v f n g m).1 := by
  have HA := Hid.mk' ha
  have HB := Hid.mk' hb
  have hla : (n : Int) ≤ 140737488351232 := by have := ha.2.1; omega
  have hlb : (m : Int) ≤ 140737488351232 := by have := hb.2.1; omega
  have hc1 := fun (W : World) (A : Nat) (h : RL W (some ⟨A, 0, none⟩) 1 [u]) (h' : Rd W a n ca f) => wylMulI W (some ⟨A, 0, none⟩) a 1 1 n ca (lf [u]) f h h'
  have hc2 := fun (W : World) (A : Nat) (h : RL W (some ⟨A, 0, none⟩) 1 [v]) (h' : Rd W b m cb g) => wylMulI W (some ⟨A, 0, none⟩) b 1 1 m cb (lf [v]) g h h'
  have hl1 := wylMul_len (lf [u]) 1 f n
  have hl2 := wylMul_len (lf [v]) 1 g m
  clear ha hb
  unfold diffV
  generalize wylMul (lf [u]) 1 f n = p at *
  generalize wylMul (lf [v]) 1 g m = q at *
  obtain ⟨X, k1⟩ := p
  obtain ⟨Y, k2⟩ := q
  dsimp only at hc1 hc2 hl1 hl2 ⊢
  have hru := one_RL (w.alloc (.cells #[.int .i64 u.c, .int .i64 u.m.x, .int .i64 u.m.y, .int .i64 u.m.d, .int .i64 u.m.e, .int .i64 v.c, .int .i64 v.m.x, .int .i64 v.m.y, .int .i64 v.m.d, .int .i64 v.m.e] 105)) u
  rw [World.size_alloc] at hru
  have HRU := Hid.mk' hru
  have HB0 := Hid.mk' (bel_two w (.cells #[.int .i64 u.c, .int .i64 u.m.x, .int .i64 u.m.y, .int .i64 u.m.d, .int .i64 u.m.e, .int .i64 v.c, .int .i64 v.m.x, .int .i64 v.m.y, .int .i64 v.m.d, .int .i64 v.m.e] 105) (.cells #[.int .i64 u.c, .int .i64 u.m.x, .int .i64 u.m.y, .int .i64 u.m.d, .int .i64 u.m.e] 59))
  clear hru
  have hnil : ∀ (W : World), Out w.heap.size W none 0 ([] : List T) := fun W => ⟨⟨Nat.le_refl _, by simp, .inl rfl⟩, .inl rfl, .inl rfl⟩
  have HN := Hid.mk' hnil
  clear hnil
  by_cases hk : k1 = true ∧ k2 = true
  · obtain ⟨rfl, rfl⟩ := hk
    rw [if_pos ⟨rfl, rfl⟩]
    go_enter Tryz.func75, Tryz.ntmps75
    go_wp2_with fail
    refine (hc1 _ _ HRU.out (HA.out.below HB0.out)).mono ?_
    rintro r w1 ⟨a1, c1, rfl, hb1, ho1⟩
    obtain ⟨hcc, hff⟩ := bcell hb1
    have HB1 := Hid.mk' (bel_next HB0.out hb1)
    have HX1 := Hid.mk' ho1.1
    have HBV := Hid.mk' (HB1.out.alloc HB1.out.size (.cells #[.int .i64 v.c, .int .i64 v.m.x, .int .i64 v.m.y, .int .i64 v.m.d, .int .i64 v.m.e] 59))
    clear hb1 ho1
    go_wp2_with fail
    clear hcc hff
    refine (hc2 _ _ (one_RL w1 v) (HB.out.below HBV.out)).mono ?_
    rintro r w2 ⟨a2, c2, rfl, hb2, ho2⟩
    have HB2 := Hid.mk' (bel_next HBV.out hb2)
    have HX2 := Hid.mk' ((HX1.out.below (bel_one w1 (.cells #[.int .i64 v.c, .int .i64 v.m.x, .int .i64 v.m.y, .int .i64 v.m.d, .int .i64 v.m.e] 59))).below hb2)
    have HY2 := Hid.mk' ho2.1
    clear hb2 ho2 HX1 HB1 HBV
    go_wp2_with (go_at_call 106; refine (polSubI _ _ _ _ _ _ _ (lf X) (lf Y) HX2.out HY2.out).mono ?_; rintro r w3 ⟨a3, c3, rfl, hb3, ho3⟩)
    refine bodyPost_ret (results_tmp2 rfl _ _ _) rfl ?_
    exact ⟨a3, c3, rfl, bel_next HB2.out hb3, out_low ho3 HB2.out.size⟩
  · rw [if_neg hk]
    have hk' : (!k1 || !k2) = true := by cases k1 <;> cases k2 <;> simp at hk ⊢
    go_enter Tryz.func75, Tryz.ntmps75
    go_wp2_with fail
    refine (hc1 _ _ HRU.out (HA.out.below HB0.out)).mono ?_
    rintro r w1 ⟨a1, c1, rfl, hb1, ho1⟩
    obtain ⟨hcc, hff⟩ := bcell hb1
    have HB1 := Hid.mk' (bel_next HB0.out hb1)
    have HX1 := Hid.mk' ho1.1
    have HBV := Hid.mk' (HB1.out.alloc HB1.out.size (.cells #[.int .i64 v.c, .int .i64 v.m.x, .int .i64 v.m.y, .int .i64 v.m.d, .int .i64 v.m.e] 59))
    clear hb1 ho1
    go_wp2_with fail
    clear hcc hff
    refine (hc2 _ _ (one_RL w1 v) (HB.out.below HBV.out)).mono ?_
    rintro r w2 ⟨a2, c2, rfl, hb2, ho2⟩
    have HB2 := Hid.mk' (bel_next HBV.out hb2)
    have HX2 := Hid.mk' ((HX1.out.below (bel_one w1 (.cells #[.int .i64 v.c, .int .i64 v.m.x, .int .i64 v.m.y, .int .i64 v.m.d, .int .i64 v.m.e] 59))).below hb2)
    have HY2 := Hid.mk' ho2.1
    clear hb2 ho2 HX1 HB1 HBV
    cases k1
    · go_wp2
      refine bodyPost_ret (results_tmp2 rfl _ _ _) rfl ?_
      exact ⟨none, 0, rfl, HB2.out, HN.out w2⟩
    · cases k2
      · go_wp2
        refine bodyPost_ret (results_tmp2 rfl _ _ _) rfl ?_
        exact ⟨none, 0, rfl, HB2.out, HN.out w2⟩
      · exact absurd ⟨rfl, rfl⟩ hk
set_option maxRecDepth 100000 in
set_option maxHeartbeats 8000000 in
theorem sprPolyS (w : World) (o : Int) (a b : Option Addr) (n ca m cb : Nat) (f g : Nat → T) (ha : Rd w a n ca f) (hb : Rd w b m cb g) :
    Calls Tryz.prog 29 #[.int .i64 o, .slice a n ca, .slice b m cb] w fun r w' => ∃ v, r = .returned (.tuple #[v, .bool (sprPoly o f n g m).2]) ∧ Below w.heap.size w w' ∧ w'.ownsRow w.heap.size 59 5 v (sprPoly o f n g m).1.length (cellsL (sprPoly o f n g m).1) := by
  have HA := Hid.mk' ha
  have HB := Hid.mk' hb
  have hla : (n : Int) ≤ 140737488351232 := by have := ha.2.1; omega
  have hlb : (m : Int) ≤ 140737488351232 := by have := hb.2.1; omega
  have hcall := sprTermsS w o a n ca f b m cb g ha hb
  clear ha hb
  unfold sprPoly
  obtain ⟨U, hU⟩ : ∃ U, sprU o n f m g = U := ⟨_, rfl⟩
  obtain ⟨V, hV⟩ : ∃ V, sprV o n f m g = V := ⟨_, rfl⟩
  cases hok : sprOk o n f m g
  · rw [hU, hV, hok] at hcall
    rw [if_neg (by simp)]
    clear hU hV hok
    go_enter Tryz.func29, Tryz.ntmps29
    go_wp2_with fail
    refine hcall.mono ?_
    rintro r w1 ⟨rfl, hb1⟩
    have HB1 := Hid.mk' hb1
    clear hb1 hcall
    have HB2 := Hid.mk' (HB1.out.alloc HB1.out.size (.cells #[.int .i64 U.c, .int .i64 U.m.x, .int .i64 U.m.y, .int .i64 U.m.d, .int .i64 U.m.e] 59))
    have HB3 := Hid.mk' (HB2.out.alloc HB2.out.size (.cells #[.int .i64 V.c, .int .i64 V.m.x, .int .i64 V.m.y, .int .i64 V.m.d, .int .i64 V.m.e] 59))
    have hnn := owns_none ((w1.alloc (.cells #[.int .i64 U.c, .int .i64 U.m.x, .int .i64 U.m.y, .int .i64 U.m.d, .int .i64 U.m.e] 59)).alloc (.cells #[.int .i64 V.c, .int .i64 V.m.x, .int .i64 V.m.y, .int .i64 V.m.d, .int .i64 V.m.e] 59)) w.heap.size HB3.out.size
    rw [World.size_alloc, World.size_alloc] at hnn
    have HNN := Hid.mk' hnn
    clear hnn
    go_wp2
    refine bodyPost_ret (results_tmp2 rfl _ _ _) rfl ?_
    exact ⟨_, rfl, HB3.out.alloc HB3.out.size _, HNN.out⟩
  · obtain ⟨gU, gV⟩ := spr_good hok
    have hk := hok
    unfold sprOk at hk
    rw [Bool.and_eq_true] at hk
    have p1 := (leadOk_parts hk.1).2.1
    have p2 := (leadOk_parts hk.2).2.1
    rw [hU] at gU
    rw [hV] at gV
    rw [hU, hV, hok] at hcall
    rw [if_pos rfl, hU, hV, less_diff gU gV p1 p2]
    obtain ⟨l1, g1⟩ := good_ok p1
    have gs : Good (lf [U]) 1 := fun i hi => by
      obtain rfl : i = 0 := by omega
      exact ⟨gU.1, by show 0 ≤ U.c; omega, gU.2.2⟩
    have hm := fun (W : World) (A : Nat) (h : RL W (some ⟨A, 0, none⟩) 1 [U]) (h' : Rd W a n ca f) => mulS4 W (some ⟨A, 0, none⟩) a 1 1 n ca (lf [U]) f h h' (by omega) l1 gs g1
    have HGS := Hid.mk' gs
    have HG1 := Hid.mk' g1
    have HP2 := Hid.mk' p2
    have HGV := Hid.mk' gV
    clear hU hV hok hk gU gV gs g1 p1 p2
    cases hX : mulM (lf [U]) f n 1 with
    | none =>
      rw [hX] at hm
      simp only [mulO] at hm
      go_enter Tryz.func29, Tryz.ntmps29
      go_wp2_with fail
      refine hcall.mono ?_
      rintro r w1 ⟨rfl, hb1⟩
      have HB1 := Hid.mk' hb1
      clear hb1 hcall
      have HB2 := Hid.mk' (HB1.out.alloc HB1.out.size (.cells #[.int .i64 U.c, .int .i64 U.m.x, .int .i64 U.m.y, .int .i64 U.m.d, .int .i64 U.m.e] 59))
      have HB3 := Hid.mk' (HB2.out.alloc HB2.out.size (.cells #[.int .i64 V.c, .int .i64 V.m.x, .int .i64 V.m.y, .int .i64 V.m.d, .int .i64 V.m.e] 59))
      have HB4 := Hid.mk' (HB3.out.alloc HB3.out.size (.cells #[.int .i64 U.c, .int .i64 U.m.x, .int .i64 U.m.y, .int .i64 U.m.d, .int .i64 U.m.e] 59))
      have hru := one_RL ((w1.alloc (.cells #[.int .i64 U.c, .int .i64 U.m.x, .int .i64 U.m.y, .int .i64 U.m.d, .int .i64 U.m.e] 59)).alloc (.cells #[.int .i64 V.c, .int .i64 V.m.x, .int .i64 V.m.y, .int .i64 V.m.d, .int .i64 V.m.e] 59)) U
      rw [World.size_alloc, World.size_alloc] at hru
      have HRU := Hid.mk' hru
      clear hru
      go_wp2_with fail
      refine (hm _ _ HRU.out (HA.out.below HB4.out)).mono ?_
      rintro r w2 ⟨v2, rfl, hb2, ho2⟩
      have HB5 := Hid.mk' (bel_next HB4.out hb2)
      clear hb2 ho2 hm
      go_wp2
      refine bodyPost_ret (results_tmp2 rfl _ _ _) rfl ?_
      exact ⟨_, rfl, HB5.out.alloc HB5.out.size _, owns_none _ w.heap.size HB5.out.size⟩
    | some X =>
      have fX := mulM_falls2 HGS.out HG1.out 1 X (Nat.le_refl _) hX
      have lX := mulM_len 1 X hX
      have HFX := Hid.mk' fX
      rw [hX] at hm
      simp only [mulO] at hm
      have hless := fun (W : World) (pa : Option Addr) (pc : Nat) (h : RL W pa pc X) (h' : Rd W b m cb g) => l7LessS W pa pc X V b m cb g h lX HFX.out HGV.out h' HP2.out
      dsimp only
      generalize lessV X V g m = D at hless ⊢
      clear fX hX
      go_enter Tryz.func29, Tryz.ntmps29
      go_wp2_with fail
      refine hcall.mono ?_
      rintro r w1 ⟨rfl, hb1⟩
      have HB1 := Hid.mk' hb1
      clear hb1 hcall
      have HB2 := Hid.mk' (HB1.out.alloc HB1.out.size (.cells #[.int .i64 U.c, .int .i64 U.m.x, .int .i64 U.m.y, .int .i64 U.m.d, .int .i64 U.m.e] 59))
      have HC3 := Hid.mk' (C5.box (w1.alloc (.cells #[.int .i64 U.c, .int .i64 U.m.x, .int .i64 U.m.y, .int .i64 U.m.d, .int .i64 U.m.e] 59)) 59 V)
      have HB3 := Hid.mk' (HB2.out.alloc HB2.out.size (.cells #[.int .i64 V.c, .int .i64 V.m.x, .int .i64 V.m.y, .int .i64 V.m.d, .int .i64 V.m.e] 59))
      have HB4 := Hid.mk' (HB3.out.alloc HB3.out.size (.cells #[.int .i64 U.c, .int .i64 U.m.x, .int .i64 U.m.y, .int .i64 U.m.d, .int .i64 U.m.e] 59))
      have hru := one_RL ((w1.alloc (.cells #[.int .i64 U.c, .int .i64 U.m.x, .int .i64 U.m.y, .int .i64 U.m.d, .int .i64 U.m.e] 59)).alloc (.cells #[.int .i64 V.c, .int .i64 V.m.x, .int .i64 V.m.y, .int .i64 V.m.d, .int .i64 V.m.e] 59)) U
      rw [World.size_alloc, World.size_alloc] at hru
      have HRU := Hid.mk' hru
      clear hru
      go_wp2_with fail
      refine (hm _ _ HRU.out (HA.out.below HB4.out)).mono ?_
      rintro r w2 ⟨v2, rfl, hb2, ho2⟩
      obtain ⟨a2, c2, rfl, hout⟩ := out_of_owns ho2 (by omega)
      have HB5 := Hid.mk' (bel_next HB4.out hb2)
      have hC5 := (HC3.out.below (bel_one _ (.cells #[.int .i64 U.c, .int .i64 U.m.x, .int .i64 U.m.y, .int .i64 U.m.d, .int .i64 U.m.e] 59))).below hb2
      have HX2 := Hid.mk' hout.1
      rw [World.size_alloc] at hC5
      obtain ⟨r0, r1, r2, r3, r4⟩ := hC5
      clear hb2 ho2 hm hout
      go_wp2_with fail
      clear r0 r1 r2 r3 r4
      refine (hless _ _ _ HX2.out (HB.out.below HB5.out)).mono ?_
      rintro r w3 ⟨v3, rfl, hb3, ho3⟩
      have HB6 := Hid.mk' (bel_next HB5.out hb3)
      have HO6 := Hid.mk' (ownsRow_low ho3 HB5.out.size)
      clear hb3 ho3
      go_wp2
      refine bodyPost_ret (results_tmp2 rfl _ _ _) rfl ?_
      exact ⟨_, rfl, HB6.out, HO6.out⟩
end Go.Proofs.YtehlfifplhnceaaGreat
namespace Go.Proofs.YtehlfifplhnceaaGreat
open Go.RowKit Go.Deep Go.Joins
set_option linter.unusedVariables false

/-- what is not divided yet, what is taken of each, what is left. -/
structure Dv where
  p : List T
  q : Nat → List T
  r : List T
/-- the greatest term. -/
def ldL (o : Int) (L : List T) : T := lf L (leadAt o (lf L) L.length)
/-- which one takes. -/
def dvK (o : Int) (n : Nat) (ln : Nat → Nat) (f : Nat → Nat → T) (m : M) : Int := idxF (fun t => M.dvd t.m m) (ldAt o ln f) n
def updQ (q : Nat → List T) (k : Nat) (L : List T) (i : Nat) : List T := if i = k then L else q i
/-- what is taken. -/
def dvT (o : Int) (ln : Nat → Nat) (f : Nat → Nat → T) (S : Dv) (k : Nat) : T := overT (ldL o S.p) (ldAt o ln f k)
def dvTake (o : Int) (ln : Nat → Nat) (f : Nat → Nat → T) (S : Dv) (k : Nat) : Option Dv :=
  match mulM (lf [dvT o ln f S k]) (f k) (ln k) 1 with
  | none => none
  | some Y => if (subL S.p Y).length ≤ 400 then some ⟨subL S.p Y, updQ S.q k (addL (S.q k) [dvT o ln f S k]), S.r⟩ else none
def dvLeave (o : Int) (S : Dv) : Dv := ⟨subL S.p [ldL o S.p], S.q, addL S.r [ldL o S.p]⟩
def dvStep (o : Int) (n : Nat) (ln : Nat → Nat) (f : Nat → Nat → T) (S : Dv) : Option Dv :=
  if 0 ≤ dvK o n ln f (ldL o S.p).m then dvTake o ln f S (dvK o n ln f (ldL o S.p).m).toNat else some (dvLeave o S)
def dvRun (o : Int) (n : Nat) (ln : Nat → Nat) (f : Nat → Nat → T) : Nat → Dv → Option Dv
  | 0, S => if S.p.length = 0 then some S else none
  | u + 1, S => if S.p.length = 0 then some S else match dvStep o n ln f S with
    | none => none
    | some S' => dvRun o n ln f u S'
def dvOf (p : List T) : Dv := ⟨p, fun _ => [], []⟩
/-- what RedAll answers; none, if it is too much. -/
def redAll (o : Int) (p : List T) (n : Nat) (ln : Nat → Nat) (f : Nat → Nat → T) : Option Dv :=
  if (1 ≤ o ∧ o ≤ 3) ∧ okL p = true ∧ lstOk n ln f = true then dvRun o n ln f 300 (dvOf p) else none
/-- what is true of a division behind u steps. -/
structure DvOk (u : Nat) (S : Dv) : Prop where
  p : okL S.p = true
  q : ∀ k, Falls (S.q k) ∧ (S.q k).length ≤ u
  r : Falls S.r ∧ S.r.length ≤ u
theorem DvOk.start {p : List T} (h : okL p = true) : DvOk 0 (dvOf p) := ⟨h, fun _ => ⟨falls_nil, Nat.le_refl _⟩, falls_nil, Nat.le_refl _⟩
theorem dvRun_done {o : Int} {n : Nat} {ln : Nat → Nat} {f : Nat → Nat → T} {u : Nat} {S : Dv} (h : S.p.length = 0) : dvRun o n ln f u S = some S := by
  cases u <;> exact if_pos h
theorem dvRun_out {o : Int} {n : Nat} {ln : Nat → Nat} {f : Nat → Nat → T} {S : Dv} (h : S.p.length ≠ 0) : dvRun o n ln f 0 S = none := if_neg h
theorem dvRun_no {o : Int} {n : Nat} {ln : Nat → Nat} {f : Nat → Nat → T} {u : Nat} {S : Dv} (h : S.p.length ≠ 0) (hs : dvStep o n ln f S = none) : dvRun o n ln f (u + 1) S = none := by
  show (if S.p.length = 0 then some S else match dvStep o n ln f S with | none => none | some S' => dvRun o n ln f u S') = none
  rw [if_neg h, hs]
theorem dvRun_step {o : Int} {n : Nat} {ln : Nat → Nat} {f : Nat → Nat → T} {u : Nat} {S S' : Dv} (h : S.p.length ≠ 0) (hs : dvStep o n ln f S = some S') : dvRun o n ln f (u + 1) S = dvRun o n ln f u S' := by
  show (if S.p.length = 0 then some S else match dvStep o n ln f S with | none => none | some S' => dvRun o n ln f u S') = _
  rw [if_neg h, hs]
theorem ldL_mem {o : Int} {L : List T} (h : L.length ≠ 0) : ldL o L ∈ L := lf_mem (leadAt_lt (by omega))
theorem ldL_good {o : Int} {L : List T} (hL : Falls L) (h : L.length ≠ 0) : (ldL o L).m.ok = true ∧ 1 ≤ (ldL o L).c ∧ (ldL o L).c ≤ 100 := hL.2 _ (ldL_mem h)
theorem ldL_is {o : Int} {L : List T} (ho : 1 ≤ o ∧ o ≤ 3) (hL : okL L = true) (h : L.length ≠ 0) : ldL o L = ldT o L := by
  have : leadOk o L.length (lf L) = true := ldB_iff.2 ⟨ho, hL, fun e => h (by rw [e]; rfl)⟩
  unfold ldT
  rw [leadT_yes this]
  rfl
theorem ldL_top {o : Int} {L : List T} (ho : 1 ≤ o ∧ o ≤ 3) (hL : okL L = true) (h : L.length ≠ 0) : ∀ t ∈ L, rkW o t.m ≤ rkW o (ldL o L).m := by
  have : ldB o L = true := ldB_iff.2 ⟨ho, hL, fun e => h (by rw [e]; rfl)⟩
  rw [ldL_is ho hL h]
  exact (ld_top this).2
theorem ldAt_good {o : Int} {n : Nat} {ln : Nat → Nat} {f : Nat → Nat → T} (hl : lstOk n ln f = true) {k : Nat} (hk : k < n) : (ldAt o ln f k).m.ok = true ∧ 1 ≤ (ldAt o ln f k).c ∧ (ldAt o ln f k).c ≤ 100 := by
  obtain ⟨h0, h1⟩ := (lstOk_all hl).2 k hk
  exact (fl_of_ok h1).2 _ (leadAt_lt (by omega))
theorem mul_pos101 {a b : Int} (h1 : 1 ≤ a) (h2 : a ≤ 100) (h3 : 1 ≤ b) (h4 : b ≤ 100) : 1 ≤ a * b % 101 ∧ a * b % 101 ≤ 100 := by
  have h0 : a * b % 101 ≠ 0 := fun e => by
    obtain ⟨x, hx⟩ : ∃ x : Nat, a = x := ⟨a.toNat, by omega⟩
    obtain ⟨y, hy⟩ : ∃ y : Nat, b = y := ⟨b.toNat, by omega⟩
    subst hx hy
    have := prime_nat ⟨x, by omega⟩ ⟨y, by omega⟩ (by simp only; exact_mod_cast e)
    simp at this
    omega
  omega
theorem overT_good {t l : T} (ht : t.m.ok = true ∧ 1 ≤ t.c ∧ t.c ≤ 100) (hl : l.m.ok = true ∧ 1 ≤ l.c ∧ l.c ≤ 100) (hd : l.m.dvd t.m = true) : (overT t l).m.ok = true ∧ 1 ≤ (overT t l).c ∧ (overT t l).c ≤ 100 := by
  have h1 := sprT_good (b := t.m) hl hd
  have h2 := mul_pos101 ht.2.1 ht.2.2 (fInv_pos hl.2.1 hl.2.2) (fInv_bd l.c).2
  exact ⟨h1.1, h2.1, h2.2⟩
theorem dvK_facts {o : Int} {n : Nat} {ln : Nat → Nat} {f : Nat → Nat → T} {m : M} (h : 0 ≤ dvK o n ln f m) : (dvK o n ln f m).toNat < n ∧ M.dvd (ldAt o ln f (dvK o n ln f m).toNat).m m = true := by
  unfold dvK at h ⊢
  obtain ⟨i, hi, hp⟩ := idx_iff.1 h
  obtain ⟨j, hj, h1, h2⟩ : ∃ j, j < n ∧ (∀ i, i < j → (fun t : T => M.dvd t.m m) (ldAt o ln f i) = false) ∧ (fun t : T => M.dvd t.m m) (ldAt o ln f j) = true := by
    clear h
    revert i
    induction n with
    | zero => intro i hi; omega
    | succ n ih =>
      intro i hi hp
      by_cases hx : ∃ i, i < n ∧ (fun t : T => M.dvd t.m m) (ldAt o ln f i) = true
      · obtain ⟨i', h1, h2⟩ := hx
        obtain ⟨j, hj, h3, h4⟩ := ih i' h1 h2
        exact ⟨j, by omega, h3, h4⟩
      · have hin : i = n := by
          rcases Nat.lt_or_ge i n with h | h
          · exact absurd ⟨i, h, hp⟩ hx
          · omega
        subst hin
        refine ⟨i, hi, fun k hk => ?_, hp⟩
        cases hb : (fun t : T => M.dvd t.m m) (ldAt o ln f k) with
        | false => rfl
        | true => exact absurd ⟨k, hk, hb⟩ hx
  rw [idx_hit h1 h2 n hj]
  exact ⟨by simpa using hj, by simpa using h2⟩
theorem fallsOne {t : T} (h : t.m.ok = true ∧ 1 ≤ t.c ∧ t.c ≤ 100) : Falls [t] := (okL_falls (one_ok h)).2
theorem dvT_good {o : Int} {n : Nat} {ln : Nat → Nat} {f : Nat → Nat → T} (hl : lstOk n ln f = true) {S : Dv} (hp : okL S.p = true) (h : S.p.length ≠ 0) (hk : 0 ≤ dvK o n ln f (ldL o S.p).m) :
    (dvT o ln f S (dvK o n ln f (ldL o S.p).m).toNat).m.ok = true ∧ 1 ≤ (dvT o ln f S (dvK o n ln f (ldL o S.p).m).toNat).c ∧ (dvT o ln f S (dvK o n ln f (ldL o S.p).m).toNat).c ≤ 100 :=
  overT_good (ldL_good (okL_falls hp).2 h) (ldAt_good hl (dvK_facts hk).1) (dvK_facts hk).2
theorem mul1_falls {t : T} (ht : t.m.ok = true ∧ 1 ≤ t.c ∧ t.c ≤ 100) {g : Nat → T} {m : Nat} (hg : polOk m g = true) {Y : List T} (h : mulM (lf [t]) g m 1 = some Y) : okL Y = true :=
  okL_of (mulM_len _ Y h) (mulM_falls2 (good_ok (show polOk 1 (lf [t]) = true from one_ok ht)).2 (good_ok hg).2 _ Y (Nat.le_refl _) h)
/-- taking: what is true behind it. -/
theorem DvOk.take {o : Int} {n : Nat} {ln : Nat → Nat} {f : Nat → Nat → T} (hl : lstOk n ln f = true) {u : Nat} {S S' : Dv} (h : DvOk u S) (h0 : S.p.length ≠ 0) (hk : 0 ≤ dvK o n ln f (ldL o S.p).m) (hs : dvTake o ln f S (dvK o n ln f (ldL o S.p).m).toNat = some S') : DvOk (u + 1) S' := by
  have hg := dvT_good hl h.p h0 hk
  have hkn := (dvK_facts hk).1
  generalize (dvK o n ln f (ldL o S.p).m).toNat = k at hs hg hkn
  unfold dvTake at hs
  split at hs
  · cases hs
  · rename_i Y hY
    split at hs
    · rename_i hle
      cases hs
      have fY := mul1_falls hg ((lstOk_all hl).2 k hkn).2 hY
      refine ⟨okL_of hle (subL_facts (okL_falls h.p).2 (okL_falls fY).2).1, fun i => ?_, h.r.1, Nat.le_succ_of_le h.r.2⟩
      show Falls (updQ S.q k _ i) ∧ (updQ S.q k _ i).length ≤ u + 1
      unfold updQ
      split
      · refine ⟨(addL_facts (h.q k).1 (fallsOne hg)).1, ?_⟩
        have h1 := addL_len (S.q k) [dvT o ln f S k]
        have h2 := (h.q k).2
        simp only [List.length_singleton] at h1
        omega
      · exact ⟨(h.q i).1, Nat.le_succ_of_le (h.q i).2⟩
    · cases hs
theorem DvOk.leave {o : Int} {u : Nat} {S : Dv} (h : DvOk u S) (h0 : S.p.length ≠ 0) (hle : (subL S.p [ldL o S.p]).length ≤ 400) : DvOk (u + 1) (dvLeave o S) := by
  have hg := ldL_good (o := o) (okL_falls h.p).2 h0
  refine ⟨okL_of hle (subL_facts (okL_falls h.p).2 (fallsOne hg)).1, fun i => ⟨(h.q i).1, Nat.le_succ_of_le (h.q i).2⟩, (addL_facts h.r.1 (fallsOne hg)).1, ?_⟩
  have h1 := addL_len S.r [ldL o S.p]
  have h2 := h.r.2
  simp only [List.length_singleton] at h1
  show (addL S.r [ldL o S.p]).length ≤ u + 1
  omega
theorem mem_coefV {L : List T} (h : Falls L) {t : T} (ht : t ∈ L) : coef L t.m = t.c ∧ coef L t.m ≠ 0 := by
  have h1 : coef L t.m = t.c := by
    induction L with
    | nil => cases ht
    | cons s r ih =>
      rw [coef]
      rcases List.mem_cons.1 ht with rfl | ht'
      · rw [if_pos (meqB_iff.2 rfl)]
      · have h1 := h.head t ht'
        rw [if_neg (fun e => by rw [meqB_iff.1 e] at h1; omega)]
        exact ih h.tail ht'
  have h2 := h.2 t ht
  exact ⟨h1, by omega⟩
/-- a term that is taken away is gone. -/
theorem sub_one_len {L : List T} (hL : Falls L) {t : T} (ht : t ∈ L) : (subL L [t]).length < L.length := by
  have ht' := hL.2 t ht
  have hf := subL_facts hL (fallsOne ht')
  have hm := mem_coefV hL ht
  have key : subL L [t] = L.filter (fun s => !meqB s.m t.m) := by
    refine falls_one hf.1 ⟨hL.1.filter _, fun s hs => hL.2 s (List.mem_filter.1 hs).1⟩ (fun m hmo => ?_)
    rw [hf.2 m]
    by_cases e : t.m = m
    · subst e
      have h1 : coef [t] t.m = t.c := coef_cons_same _ _
      rw [h1, hm.1]
      have h2 : coef (L.filter (fun s => !meqB s.m t.m)) t.m = 0 := by
        by_cases hz : coef (L.filter (fun s => !meqB s.m t.m)) t.m = 0
        · exact hz
        · obtain ⟨s, hs, he⟩ := List.mem_map.1 (coef_mem hz)
          have := (List.mem_filter.1 hs).2
          rw [meqB_iff.2 he] at this
          cases this
      rw [h2]; omega
    · have h1 : coef [t] m = 0 := by rw [coef_cons_ne e]; rfl
      have hb := coef_range hL m
      rw [h1]
      have h2 : coef (L.filter (fun s => !meqB s.m t.m)) m = coef L m := by
        by_cases hz : coef L m = 0
        · rw [hz]
          by_cases hz2 : coef (L.filter (fun s => !meqB s.m t.m)) m = 0
          · exact hz2
          · obtain ⟨s, hs, he⟩ := List.mem_map.1 (coef_mem hz2)
            have h3 := (mem_coefV hL (List.mem_filter.1 hs).1).2
            rw [show s.m = m from he] at h3
            exact absurd hz h3
        · obtain ⟨s, hs, he⟩ := List.mem_map.1 (coef_mem hz)
          have he : s.m = m := he
          subst he
          have h4 : s ∈ L.filter (fun s => !meqB s.m t.m) := List.mem_filter.2 ⟨hs, by rw [meqB_no.2 (fun e' => e e'.symm)]; rfl⟩
          rw [(mem_coefV hL hs).1, (mem_coefV (L := L.filter (fun s => !meqB s.m t.m)) ⟨hL.1.filter _, fun s hs => hL.2 s (List.mem_filter.1 hs).1⟩ h4).1]
      rw [h2]; omega
  rw [key]
  refine List.length_filter_lt_length_iff_exists.2 ⟨t, ht, ?_⟩
  rw [meqB_iff.2 rfl]; decide
theorem dvStep_ok {o : Int} {n : Nat} {ln : Nat → Nat} {f : Nat → Nat → T} (hl : lstOk n ln f = true) {u : Nat} {S S' : Dv} (h : DvOk u S) (h0 : S.p.length ≠ 0) (hs : dvStep o n ln f S = some S') : DvOk (u + 1) S' := by
  unfold dvStep at hs
  split at hs
  · exact h.take hl h0 (by assumption) hs
  · cases hs
    have := sub_one_len (okL_falls h.p).2 (ldL_mem (o := o) h0)
    have h4 := (okL_falls h.p).1
    exact h.leave h0 (by omega)
theorem dvRun_ok {o : Int} {n : Nat} {ln : Nat → Nat} {f : Nat → Nat → T} (hl : lstOk n ln f = true) : ∀ {v u : Nat} {S S' : Dv}, DvOk u S → dvRun o n ln f v S = some S' → DvOk (u + v) S' ∧ S'.p = []
  | 0, u, S, S', h, hr => by
    unfold dvRun at hr
    split at hr
    · rename_i h0
      cases hr
      exact ⟨h, List.length_eq_zero_iff.1 h0⟩
    · cases hr
  | v + 1, u, S, S', h, hr => by
    by_cases h0 : S.p.length = 0
    · rw [dvRun_done h0] at hr
      cases hr
      exact ⟨⟨h.p, fun k => ⟨(h.q k).1, by have := (h.q k).2; omega⟩, h.r.1, by have := h.r.2; omega⟩, List.length_eq_zero_iff.1 h0⟩
    · cases hs : dvStep o n ln f S with
      | none => rw [dvRun_no h0 hs] at hr; cases hr
      | some S1 =>
        rw [dvRun_step h0 hs] at hr
        have := dvRun_ok hl (dvStep_ok hl h h0 hs) hr
        rw [show u + (v + 1) = u + 1 + v by omega]
        exact this
end Go.Proofs.YtehlfifplhnceaaGreat
