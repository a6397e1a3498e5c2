/-
  Turning an operator round, and back: the model, and what the program answers.
-/
import Derived.Test.YtahbekfhoidgjavMapRdI
import Derived.Test.YtahbekfhoidgjavWylMulS
namespace Go.Proofs.Ytahbekfhoidgjav
open Go.RowKit Go.Maps
set_option linter.unusedVariables false


set_option maxRecDepth 100000 in
set_option maxHeartbeats 4000000 in
theorem l5PutS (w : World) (lo : Nat) (v : Value) (K : List T) (a b : T) (ho : w.ownsRow lo 42 5 v K.length (cellsL K)) (hlo : lo ≤ w.heap.size) (hl : K.length ≤ 400) (hK : Falls K) (h1 : a.m.ok = true ∧ 0 ≤ a.c ∧ a.c ≤ 100) (h2 : b.m.ok = true ∧ b.c = 1) :
    Calls Try.prog 49 #[v, .int .i64 a.c, .agg #[.int .i64 a.m.x, .int .i64 a.m.y, .int .i64 a.m.d, .int .i64 a.m.e], .agg #[.int .i64 b.m.x, .int .i64 b.m.y, .int .i64 b.m.d, .int .i64 b.m.e]] w fun r w' => ∃ v', r = .returned (.tuple #[v', .bool (mulO (stepM K a b)).2]) ∧ Below w.heap.size w w' ∧ w'.ownsRow lo 42 5 v' (mulO (stepM K a b)).1.length (cellsL (mulO (stepM K a b)).1) := by
  obtain ⟨p, cap, rfl, hout⟩ := out_of_owns ho (by omega)
  have HR := Hid.mk' hout.1
  clear ho hout
  have h2' : b.m.ok = true ∧ 0 ≤ b.c ∧ b.c ≤ 100 := ⟨h2.1, by omega, by omega⟩
  have hm : ∀ u : World, Calls Try.prog 68 #[.agg #[.int .i64 a.c, .int .i64 a.m.x, .int .i64 a.m.y, .int .i64 a.m.d, .int .i64 a.m.e], .agg #[.int .i64 1, .int .i64 b.m.x, .int .i64 b.m.y, .int .i64 b.m.d, .int .i64 b.m.e]] u fun e w' => ∃ v, e = .returned (.tuple #[v, .bool (a.m.sum b.m).ok]) ∧ Below u.heap.size u w' ∧ w'.ownsRow u.heap.size 42 5 v (pairO a b).length (cellsL (pairO a b)) := fun u => by
    have := monoS u a b h1 h2'
    rwa [h2.2] at this
  have hz := Hid.mk' (bel_next (bel_one w (.cells #[.int .i64 a.m.x, .int .i64 a.m.y, .int .i64 a.m.d, .int .i64 a.m.e] 40)) (bel_one _ (.cells #[.int .i64 b.m.x, .int .i64 b.m.y, .int .i64 b.m.d, .int .i64 b.m.e] 40)))
  have hsm := pairO_small h1 h2'
  cases hok : (a.m.sum b.m).ok
  · have e1 : stepM K a b = none := if_neg (fun h => by rw [hok] at h; cases h.1)
    rw [e1]
    rw [hok] at hm
    go_enter Try.func49, Try.ntmps49
    go_wp2_with fail
    refine (hm _).mono ?_
    rintro r w1 ⟨vx, rfl, hb1, _⟩
    have HB1 := Hid.mk' (bel_next hz.out hb1)
    clear hb1
    go_wp2
    refine bodyPost_ret (results_tmp2 rfl _ _ _) rfl ?_
    exact ⟨_, rfl, HB1.out.alloc HB1.out.size _, owns_none w1 lo (Nat.le_trans hlo HB1.out.size)⟩
  · have e0 : pairO a b = pairL a b := if_pos hok
    rw [e0] at hm hsm
    rw [hok] at hm
    have hTwo : Two a b (a.m.sum b.m) := ⟨h1.1, h2.1, hok, rfl, rfl, rfl, rfl, h1.2, h2'.2⟩
    have hpf := (pairL_facts hTwo).1
    by_cases h4 : (addL K (pairL a b)).length ≤ 400
    · have e1 : stepM K a b = some (addL K (pairL a b)) := if_pos ⟨hok, h4⟩
      have h4' : ((addL K (pairL a b)).length : Int) ≤ 400 := by omega
      rw [e1]
      go_enter Try.func49, Try.ntmps49
      go_wp2_with fail
      refine (hm _).mono ?_
      rintro r w1 ⟨vx, rfl, hb1, hx⟩
      obtain ⟨px, cx, rfl, hox⟩ := out_of_owns hx (by omega)
      have HB1 := Hid.mk' (bel_next hz.out hb1)
      have HX := Hid.mk' hox.1
      clear hb1 hx hox
      go_wp2_with fail
      refine (l3AddS _ _ _ _ _ _ _ (lf K) (lf (pairL a b)) (HR.out.below HB1.out) HX.out (by omega) (cok_falls hK).at (cok_falls hpf).at).mono ?_
      rintro r w2 ⟨v2, rfl, hb2, hown⟩
      change w2.ownsRow w1.heap.size 42 5 v2 (addL K (pairL a b)).length (cellsL (addL K (pairL a b))) at hown
      obtain ⟨py, cy, rfl, _⟩ := out_of_owns hown (by omega)
      have HB2 := Hid.mk' (bel_next HB1.out hb2)
      have HO := Hid.mk' (owns_lower hown (Nat.le_trans hlo HB1.out.size))
      clear hb2 hown
      go_wp2
      refine bodyPost_ret (results_tmp2 rfl _ _ _) rfl ?_
      exact ⟨_, rfl, HB2.out, HO.out⟩
    · have e1 : stepM K a b = none := if_neg (fun h => h4 h.2)
      have h4' : (400 : Int) < ((addL K (pairL a b)).length : Int) := by omega
      have hal : (addL K (pairL a b)).length ≤ 2000 := by have := addT_len (lf K) K.length (lf (pairL a b)) (pairL a b).length 0 0; unfold addL; omega
      rw [e1]
      go_enter Try.func49, Try.ntmps49
      go_wp2_with fail
      refine (hm _).mono ?_
      rintro r w1 ⟨vx, rfl, hb1, hx⟩
      obtain ⟨px, cx, rfl, hox⟩ := out_of_owns hx (by omega)
      have HB1 := Hid.mk' (bel_next hz.out hb1)
      have HX := Hid.mk' hox.1
      clear hb1 hx hox
      go_wp2_with fail
      refine (l3AddS _ _ _ _ _ _ _ (lf K) (lf (pairL a b)) (HR.out.below HB1.out) HX.out (by omega) (cok_falls hK).at (cok_falls hpf).at).mono ?_
      rintro r w2 ⟨v2, rfl, hb2, hown⟩
      change w2.ownsRow w1.heap.size 42 5 v2 (addL K (pairL a b)).length (cellsL (addL K (pairL a b))) at hown
      obtain ⟨py, cy, rfl, _⟩ := out_of_owns hown (by omega)
      have HB2 := Hid.mk' (bel_next HB1.out hb2)
      clear hb2 hown
      go_wp2
      refine bodyPost_ret (results_tmp2 rfl _ _ _) rfl ?_
      exact ⟨_, rfl, HB2.out.alloc HB2.out.size _, owns_none w2 lo (Nat.le_trans hlo HB2.out.size)⟩

abbrev P5 (pb o b : Nat) (t : T) (u : World) : Prop := u.cell? ⟨pb, o, none⟩ = some (.int .i64 t.c) ∧ u.cell? ⟨b, 0, none⟩ = some (.int .i64 t.m.x) ∧ u.cell? ⟨b, 1, none⟩ = some (.int .i64 t.m.y) ∧ u.cell? ⟨b, 2, none⟩ = some (.int .i64 t.m.d) ∧ u.cell? ⟨b, 3, none⟩ = some (.int .i64 t.m.e)
theorem P5.below {pb o b : Nat} {t : T} {u u' : World} (h : P5 pb o b t u) (hb : Below u.heap.size u u') (h1 : pb < u.heap.size) (h2 : b < u.heap.size) : P5 pb o b t u' :=
  ⟨(hb.cell (p := ⟨pb, o, none⟩) h1).trans h.1, (hb.cell (p := ⟨b, 0, none⟩) h2).trans h.2.1, (hb.cell (p := ⟨b, 1, none⟩) h2).trans h.2.2.1, (hb.cell (p := ⟨b, 2, none⟩) h2).trans h.2.2.2.1, (hb.cell (p := ⟨b, 3, none⟩) h2).trans h.2.2.2.2⟩
def mapRound (f : Nat → T) (n : Nat) : List T × Bool := mapV stMapRound f n
theorem mapRound_len (f : Nat → T) (n : Nat) : (mapRound f n).1.length ≤ 400 := mapV_len _ _ _
set_option maxHeartbeats 1000000 in
theorem mapRoundI (w : World) (a : Option Addr) (n cap : Nat) (f : Nat → T) (ha : Rd w a n cap f) :
    Calls Try.prog 21 #[.slice a n cap] w fun r w' => ∃ a' cap', r = .returned (.tuple #[.slice a' (mapRound f n).1.length cap', .bool (mapRound f n).2]) ∧ Below w.heap.size w w' ∧ Out w.heap.size w' a' cap' (mapRound f n).1 := by
  have hc := mapEachV w a n cap f 52 #[] stMapRound (fun _ => True) (enters_of Try.func52 (by kernel_rfl) rfl) rndTurns (fun _ _ _ _ _ _ => trivial) (fun _ _ _ => trivial) trivial ha
  change Calls Try.prog 51 #[.slice a n cap, .func (.func 52) #[] #[]] w fun r w' => ∃ v, r = .returned (.tuple #[v, .bool (mapRound f n).2]) ∧ Below w.heap.size w w' ∧ w'.ownsRow w.heap.size 42 5 v (mapRound f n).1.length (cellsL (mapRound f n).1) at hc
  have hlen := mapRound_len f n
  generalize mapRound f n = V at hc hlen ⊢
  go_enter Try.func21, Try.ntmps21
  go_wp2_with (go_at_call 51; refine hc.mono ?_; rintro r w1 ⟨v, rfl, hb1, ho1⟩)
  refine bodyPost_ret (results_tmp2 rfl _ _ _) rfl ?_
  obtain ⟨a', cap', rfl, hout⟩ := out_of_owns ho1 (by omega)
  exact ⟨a', cap', rfl, hb1, hout⟩
set_option maxRecDepth 100000 in
set_option maxHeartbeats 16000000 in
theorem mapRoundS (w : World) (a : Option Addr) (n cap : Nat) (f : Nat → T) (h : Rd w a n cap f) :
    Calls Try.prog 20 #[.slice a n cap] w fun r w' => ∃ v, r = .returned (.tuple #[v, .bool (mapRound f n).2]) ∧ Below w.heap.size w w' ∧ w'.ownsRow w.heap.size 42 5 v (mapRound f n).1.length (cellsL (mapRound f n).1) := by
  have HA := Hid.mk' h
  have hn : (n : Int) ≤ 140737488351232 := by have := h.2.1; omega
  have hO0 := owns_none w w.heap.size (Nat.le_refl _)
  have hB0 := bel_one w (.cells #[] 42)
  clear h
  cases hpa : polOk n f
  · have e1 : mapRound f n = ([], false) := by simp [mapRound, mapV, hpa]
    rw [e1]
    go_enter Try.func20, Try.ntmps20
    go_wp2_with (go_at_call 26; refine (polOkS _ _ _ _ f (HA.out.below hB0)).mono ?_; rw [hpa]; rintro r w1 ⟨rfl, hb1⟩; have HB1 := Hid.mk' (bel_next hB0 hb1); have HO1 := Hid.mk' (owns_below hO0 hb1); clear hb1)
    go_loopw [4, 5, 6] (fun v ok ii wr => ok = .bool false ∧ ii = .int .i64 0 ∧ wr.ownsRow w.heap.size 42 5 v 0 (cellsL []) ∧ Below w.heap.size w wr) (fun _ _ _ _ => 0)
    case atStart => exact ⟨rfl, rfl, HO1.out, HB1.out⟩
    case round =>
      obtain ⟨rfl, rfl, hown, hbl⟩ := hrel
      by_cases h0 : n = 0
      · subst h0
        go_wp2
        refine bodyPost_ret (results_tmp2 rfl _ _ _) rfl ?_
        exact ⟨_, rfl, hbl, hown⟩
      · have hpos : (0 : Int) < (n : Int) := by omega
        go_wp2
        refine bodyPost_ret (results_tmp2 rfl _ _ _) rfl ?_
        exact ⟨_, rfl, hbl, hown⟩
  · have e1 : mapRound f n = mulO (eachM stMapRound f n) := by simp [mapRound, mapV, hpa]
    rw [e1]
    clear e1
    have l1 := (good_ok hpa).1
    have HPA := Hid.mk' hpa
    go_enter Try.func20, Try.ntmps20
    go_wp2_with (go_at_call 26; refine (polOkS _ _ _ _ f (HA.out.below hB0)).mono ?_; rw [hpa]; rintro r w1 ⟨rfl, hb1⟩; have HB1 := Hid.mk' (bel_next hB0 hb1); have HO1 := Hid.mk' (owns_below hO0 hb1); clear hb1)
    go_loopw [4, 5, 6] (fun v ok ii wr => ∃ i : Nat, i ≤ n ∧ ii = .int .i64 (i : Int) ∧ Below w.heap.size w wr ∧ ((∃ K, ok = .bool true ∧ eachM stMapRound f i = some K ∧ Falls K ∧ wr.ownsRow w.heap.size 42 5 v K.length (cellsL K)) ∨ (ok = .bool false ∧ eachM stMapRound f n = none ∧ wr.ownsRow w.heap.size 42 5 v 0 (cellsL [])))) (fun _ _ ii _ => n - (intOf ii).toNat)
    case atStart => exact ⟨0, Nat.zero_le _, rfl, HB1.out, .inl ⟨[], rfl, rfl, falls_nil, HO1.out⟩⟩
    case round =>
      obtain ⟨i, hi, rfl, hbl, hcase⟩ := hrel
      rcases hcase with ⟨K, rfl, hM, hKf, hown⟩ | ⟨rfl, hM, hown⟩
      · by_cases hlt : i < n
        · have hil : (i : Int) < (n : Int) := by omega
          have hfi := (fl_of_ok HPA.out).2 i hlt
          have hKl := eachM_len i K hM
          have HM := Hid.mk' hM
          have HOWN := Hid.mk' hown
          have HBL := Hid.mk' hbl
          clear hown hbl hM
          have hri := HA.out.below HBL.out
          rcases hri.2.2 with h0 | ⟨pb, off, hpe, hblt, hcl⟩
          · omega
          subst hpe
          obtain ⟨g0, g1, g2, g3, g4⟩ := hcl i hlt
          clear hcl hri
          have hdb := M.ok_iff.1 hfi.1
          obtain ⟨o1, o2⟩ := rnd_ok hfi.1
          have hsr := sg_range (f i) ((f i).m.d + (f i).m.e)
          have hwr : IntKind.i64.wrap ((f i).m.d + (f i).m.e) = (f i).m.d + (f i).m.e := by rw [IntKind.wrap_i64]; omega
          have hsg := sgn_range ((f i).m.d + (f i).m.e)
          have hmb := mul_bd (show 0 ≤ (f i).c by omega) hfi.2.2 hsg.1 hsg.2
          have hwm : IntKind.i64.wrap ((f i).c * sgn ((f i).m.d + (f i).m.e)) = (f i).c * sgn ((f i).m.d + (f i).m.e) := by rw [IntKind.wrap_i64]; omega
          have htm : ((f i).c * sgn ((f i).m.d + (f i).m.e)).tmod 101 = sg (f i) ((f i).m.d + (f i).m.e) := Int.tmod_eq_emod_of_nonneg hmb.1
          have hsign : ∀ u : World, Calls Try.prog 50 #[.int .i64 ((f i).m.d + (f i).m.e)] u fun e w' => e = .returned (.int .i64 (sgn ((f i).m.d + (f i).m.e))) ∧ w' = u := fun u => l5SignS _ u (by omega) (by omega)
          have hok : ((rndA (f i)).m.sum (rndB (f i)).m).ok = true := M.ok_iff.2 (by dsimp only [rndA, rndB, M.sum]; omega)
          have hTwo : Two (rndA (f i)) (rndB (f i)) ((rndA (f i)).m.sum (rndB (f i)).m) := Two.of o1 o2 hok hsr ⟨show (0 : Int) ≤ 1 by decide, show (1 : Int) ≤ 100 by decide⟩
          have hfK := (addL_facts hKf (pairL_facts hTwo).1).1
          clear hsg hmb hfi
          go_wp2_with fail
          have hq := M4.box wr 40 (f i).m.x (f i).m.y (f i).m.d (f i).m.e
          obtain ⟨q0, q1, q2, q3⟩ := hq
          have g5 := ((bel_one wr (.cells #[.int .i64 (f i).m.x, .int .i64 (f i).m.y, .int .i64 (f i).m.d, .int .i64 (f i).m.e] 40)).cell (p := ⟨pb, off + i * 5, none⟩) hblt).trans g0
          have HBQ := Hid.mk' (bel_next HBL.out (bel_one wr (.cells #[.int .i64 (f i).m.x, .int .i64 (f i).m.y, .int .i64 (f i).m.d, .int .i64 (f i).m.e] 40)))
          have HOQ := Hid.mk' (owns_below HOWN.out (bel_one wr (.cells #[.int .i64 (f i).m.x, .int .i64 (f i).m.y, .int .i64 (f i).m.d, .int .i64 (f i).m.e] 40)))
          have hqs : (wr.alloc (.cells #[.int .i64 (f i).m.x, .int .i64 (f i).m.y, .int .i64 (f i).m.d, .int .i64 (f i).m.e] 40)).heap.size = wr.heap.size + 1 := by simp
          clear g0 g1 g2 g3 g4
          generalize wr.alloc (.cells #[.int .i64 (f i).m.x, .int .i64 (f i).m.y, .int .i64 (f i).m.d, .int .i64 (f i).m.e] 40) = wq at hqs HBQ HOQ q0 q1 q2 q3 g5 ⊢
          have HPUT := Hid.mk' (l5PutS wq.drew w.heap.size _ K (rndA (f i)) (rndB (f i)) (owns_below HOQ.out (Below.refl _ _).drew) HBQ.out.drew.size hKl hKf ⟨o1, hsr⟩ ⟨o2, rfl⟩)
          have hpbq : pb < wq.drew.heap.size := by show pb < wq.heap.size; rw [hqs]; omega
          have hb1q : wr.heap.size < wq.drew.heap.size := by show wr.heap.size < wq.heap.size; omega
          have hS0 : P5 pb (off + i * 5) wr.heap.size (f i) wq.drew := ⟨g5, q0, q1, q2, q3⟩
          go_region_held3 (fun u => u.cell? ⟨pb, off + i * 5, none⟩ = some (.int .i64 (f i).c) ∧ u.cell? ⟨wr.heap.size, 0, none⟩ = some (.int .i64 (f i).m.x) ∧ u.cell? ⟨wr.heap.size, 1, none⟩ = some (.int .i64 (f i).m.y) ∧ u.cell? ⟨wr.heap.size, 2, none⟩ = some (.int .i64 (f i).m.d) ∧ u.cell? ⟨wr.heap.size, 3, none⟩ = some (.int .i64 (f i).m.e)) (first | with_reducible exact hS0 | with_reducible exact P5.below hS0 (by assumption) hpbq hb1q) (first | (go_at_call 50; refine (hsign _).mono ?_; rintro e w' ⟨rfl, hw'⟩; obtain rfl := hw'.symm; clear hw') | (go_at_call 49; refine HPUT.out.mono ?_; rintro e w4 ⟨v4, rfl, hb4, ho4⟩; have HB4 : Hid (Below w.heap.size w w4) := (bel_next HBQ.out.drew hb4); have HO4 := Hid.mk' ho4; clear ho4))
          all_goals
            go_wp2
            go_roundw
            case rel =>
              refine ⟨i + 1, by omega, by go_num, HB4.out, ?_⟩
              have ho5 := HO4.out
              cases hst : stepM K (rndA (f i)) (rndB (f i)) with
              | none =>
                rw [hst] at ho5
                exact .inr ⟨rfl, eachM_none (i := i + 1) (by rw [eachM, HM.out]; show (stepM K (rndA (f i)) (rndB (f i))).bind lim4 = none; rw [hst]; rfl) n (by omega), ho5⟩
              | some K' =>
                rw [hst] at ho5
                have hK' : (addL K (pairL (rndA (f i)) (rndB (f i)))).length ≤ 400 ∧ addL K (pairL (rndA (f i)) (rndB (f i))) = K' := by
                  unfold stepM at hst
                  split at hst
                  · rename_i hh; exact ⟨hh.2, Option.some.inj hst⟩
                  · cases hst
                refine .inl ⟨K', rfl, ?_, hK'.2 ▸ hfK, ho5⟩
                rw [eachM, HM.out]
                show (stepM K (rndA (f i)) (rndB (f i))).bind lim4 = _
                rw [hst]
                exact if_pos (hK'.2 ▸ hK'.1)
            case measure => simp [intOf]; omega
        · obtain rfl : i = n := by omega
          have HOWN := Hid.mk' hown
          have HBL := Hid.mk' hbl
          have HM := Hid.mk' hM
          clear hown hbl hM
          go_wp2
          refine bodyPost_ret (results_tmp2 rfl _ _ _) rfl ?_
          rw [HM.out]
          exact ⟨_, rfl, HBL.out, HOWN.out⟩
      · have HOWN := Hid.mk' hown
        have HBL := Hid.mk' hbl
        have HM := Hid.mk' hM
        clear hown hbl hM
        by_cases hlt : i < n
        · have hil : (i : Int) < (n : Int) := by omega
          go_wp2
          refine bodyPost_ret (results_tmp2 rfl _ _ _) rfl ?_
          rw [HM.out]
          exact ⟨_, rfl, HBL.out, HOWN.out⟩
        · obtain rfl : i = n := by omega
          go_wp2
          refine bodyPost_ret (results_tmp2 rfl _ _ _) rfl ?_
          rw [HM.out]
          exact ⟨_, rfl, HBL.out, HOWN.out⟩
def mapBack (f : Nat → T) (n : Nat) : List T × Bool := mapV stMapBack f n
theorem mapBack_len (f : Nat → T) (n : Nat) : (mapBack f n).1.length ≤ 400 := mapV_len _ _ _
set_option maxHeartbeats 1000000 in
theorem mapBackI (w : World) (a : Option Addr) (n cap : Nat) (f : Nat → T) (ha : Rd w a n cap f) :
    Calls Try.prog 23 #[.slice a n cap] w fun r w' => ∃ a' cap', r = .returned (.tuple #[.slice a' (mapBack f n).1.length cap', .bool (mapBack f n).2]) ∧ Below w.heap.size w w' ∧ Out w.heap.size w' a' cap' (mapBack f n).1 := by
  have hc := mapEachV w a n cap f 55 #[] stMapBack (fun _ => True) (enters_of Try.func55 (by kernel_rfl) rfl) bckTurns (fun _ _ _ _ _ _ => trivial) (fun _ _ _ => trivial) trivial ha
  change Calls Try.prog 51 #[.slice a n cap, .func (.func 55) #[] #[]] w fun r w' => ∃ v, r = .returned (.tuple #[v, .bool (mapBack f n).2]) ∧ Below w.heap.size w w' ∧ w'.ownsRow w.heap.size 42 5 v (mapBack f n).1.length (cellsL (mapBack f n).1) at hc
  have hlen := mapBack_len f n
  generalize mapBack f n = V at hc hlen ⊢
  go_enter Try.func23, Try.ntmps23
  go_wp2_with (go_at_call 51; refine hc.mono ?_; rintro r w1 ⟨v, rfl, hb1, ho1⟩)
  refine bodyPost_ret (results_tmp2 rfl _ _ _) rfl ?_
  obtain ⟨a', cap', rfl, hout⟩ := out_of_owns ho1 (by omega)
  exact ⟨a', cap', rfl, hb1, hout⟩
set_option maxRecDepth 100000 in
set_option maxHeartbeats 16000000 in
theorem mapBackS (w : World) (a : Option Addr) (n cap : Nat) (f : Nat → T) (h : Rd w a n cap f) :
    Calls Try.prog 22 #[.slice a n cap] w fun r w' => ∃ v, r = .returned (.tuple #[v, .bool (mapBack f n).2]) ∧ Below w.heap.size w w' ∧ w'.ownsRow w.heap.size 42 5 v (mapBack f n).1.length (cellsL (mapBack f n).1) := by
  have HA := Hid.mk' h
  have hn : (n : Int) ≤ 140737488351232 := by have := h.2.1; omega
  have hO0 := owns_none w w.heap.size (Nat.le_refl _)
  have hB0 := bel_one w (.cells #[] 42)
  clear h
  cases hpa : polOk n f
  · have e1 : mapBack f n = ([], false) := by simp [mapBack, mapV, hpa]
    rw [e1]
    go_enter Try.func22, Try.ntmps22
    go_wp2_with (go_at_call 26; refine (polOkS _ _ _ _ f (HA.out.below hB0)).mono ?_; rw [hpa]; rintro r w1 ⟨rfl, hb1⟩; have HB1 := Hid.mk' (bel_next hB0 hb1); have HO1 := Hid.mk' (owns_below hO0 hb1); clear hb1)
    go_loopw [4, 5, 6] (fun v ok ii wr => ok = .bool false ∧ ii = .int .i64 0 ∧ wr.ownsRow w.heap.size 42 5 v 0 (cellsL []) ∧ Below w.heap.size w wr) (fun _ _ _ _ => 0)
    case atStart => exact ⟨rfl, rfl, HO1.out, HB1.out⟩
    case round =>
      obtain ⟨rfl, rfl, hown, hbl⟩ := hrel
      by_cases h0 : n = 0
      · subst h0
        go_wp2
        refine bodyPost_ret (results_tmp2 rfl _ _ _) rfl ?_
        exact ⟨_, rfl, hbl, hown⟩
      · have hpos : (0 : Int) < (n : Int) := by omega
        go_wp2
        refine bodyPost_ret (results_tmp2 rfl _ _ _) rfl ?_
        exact ⟨_, rfl, hbl, hown⟩
  · have e1 : mapBack f n = mulO (eachM stMapBack f n) := by simp [mapBack, mapV, hpa]
    rw [e1]
    clear e1
    have l1 := (good_ok hpa).1
    have HPA := Hid.mk' hpa
    go_enter Try.func22, Try.ntmps22
    go_wp2_with (go_at_call 26; refine (polOkS _ _ _ _ f (HA.out.below hB0)).mono ?_; rw [hpa]; rintro r w1 ⟨rfl, hb1⟩; have HB1 := Hid.mk' (bel_next hB0 hb1); have HO1 := Hid.mk' (owns_below hO0 hb1); clear hb1)
    go_loopw [4, 5, 6] (fun v ok ii wr => ∃ i : Nat, i ≤ n ∧ ii = .int .i64 (i : Int) ∧ Below w.heap.size w wr ∧ ((∃ K, ok = .bool true ∧ eachM stMapBack f i = some K ∧ Falls K ∧ wr.ownsRow w.heap.size 42 5 v K.length (cellsL K)) ∨ (ok = .bool false ∧ eachM stMapBack f n = none ∧ wr.ownsRow w.heap.size 42 5 v 0 (cellsL [])))) (fun _ _ ii _ => n - (intOf ii).toNat)
    case atStart => exact ⟨0, Nat.zero_le _, rfl, HB1.out, .inl ⟨[], rfl, rfl, falls_nil, HO1.out⟩⟩
    case round =>
      obtain ⟨i, hi, rfl, hbl, hcase⟩ := hrel
      rcases hcase with ⟨K, rfl, hM, hKf, hown⟩ | ⟨rfl, hM, hown⟩
      · by_cases hlt : i < n
        · have hil : (i : Int) < (n : Int) := by omega
          have hfi := (fl_of_ok HPA.out).2 i hlt
          have hKl := eachM_len i K hM
          have HM := Hid.mk' hM
          have HOWN := Hid.mk' hown
          have HBL := Hid.mk' hbl
          clear hown hbl hM
          have hri := HA.out.below HBL.out
          rcases hri.2.2 with h0 | ⟨pb, off, hpe, hblt, hcl⟩
          · omega
          subst hpe
          obtain ⟨g0, g1, g2, g3, g4⟩ := hcl i hlt
          clear hcl hri
          have hdb := M.ok_iff.1 hfi.1
          obtain ⟨o1, o2⟩ := bck_ok hfi.1
          have hsr := sg_range (f i) ((f i).m.d + (f i).m.e)
          have hwr : IntKind.i64.wrap ((f i).m.d + (f i).m.e) = (f i).m.d + (f i).m.e := by rw [IntKind.wrap_i64]; omega
          have hsg := sgn_range ((f i).m.d + (f i).m.e)
          have hmb := mul_bd (show 0 ≤ (f i).c by omega) hfi.2.2 hsg.1 hsg.2
          have hwm : IntKind.i64.wrap ((f i).c * sgn ((f i).m.d + (f i).m.e)) = (f i).c * sgn ((f i).m.d + (f i).m.e) := by rw [IntKind.wrap_i64]; omega
          have htm : ((f i).c * sgn ((f i).m.d + (f i).m.e)).tmod 101 = sg (f i) ((f i).m.d + (f i).m.e) := Int.tmod_eq_emod_of_nonneg hmb.1
          have hsign : ∀ u : World, Calls Try.prog 50 #[.int .i64 ((f i).m.d + (f i).m.e)] u fun e w' => e = .returned (.int .i64 (sgn ((f i).m.d + (f i).m.e))) ∧ w' = u := fun u => l5SignS _ u (by omega) (by omega)
          have hok : ((bckA (f i)).m.sum (bckB (f i)).m).ok = true := M.ok_iff.2 (by dsimp only [bckA, bckB, M.sum]; omega)
          have hTwo : Two (bckA (f i)) (bckB (f i)) ((bckA (f i)).m.sum (bckB (f i)).m) := Two.of o1 o2 hok hsr ⟨show (0 : Int) ≤ 1 by decide, show (1 : Int) ≤ 100 by decide⟩
          have hfK := (addL_facts hKf (pairL_facts hTwo).1).1
          clear hsg hmb hfi
          go_wp2_with fail
          have hq := M4.box wr 40 (f i).m.x (f i).m.y (f i).m.d (f i).m.e
          obtain ⟨q0, q1, q2, q3⟩ := hq
          have g5 := ((bel_one wr (.cells #[.int .i64 (f i).m.x, .int .i64 (f i).m.y, .int .i64 (f i).m.d, .int .i64 (f i).m.e] 40)).cell (p := ⟨pb, off + i * 5, none⟩) hblt).trans g0
          have HBQ := Hid.mk' (bel_next HBL.out (bel_one wr (.cells #[.int .i64 (f i).m.x, .int .i64 (f i).m.y, .int .i64 (f i).m.d, .int .i64 (f i).m.e] 40)))
          have HOQ := Hid.mk' (owns_below HOWN.out (bel_one wr (.cells #[.int .i64 (f i).m.x, .int .i64 (f i).m.y, .int .i64 (f i).m.d, .int .i64 (f i).m.e] 40)))
          have hqs : (wr.alloc (.cells #[.int .i64 (f i).m.x, .int .i64 (f i).m.y, .int .i64 (f i).m.d, .int .i64 (f i).m.e] 40)).heap.size = wr.heap.size + 1 := by simp
          clear g0 g1 g2 g3 g4
          generalize wr.alloc (.cells #[.int .i64 (f i).m.x, .int .i64 (f i).m.y, .int .i64 (f i).m.d, .int .i64 (f i).m.e] 40) = wq at hqs HBQ HOQ q0 q1 q2 q3 g5 ⊢
          have HPUT := Hid.mk' (l5PutS wq.drew w.heap.size _ K (bckA (f i)) (bckB (f i)) (owns_below HOQ.out (Below.refl _ _).drew) HBQ.out.drew.size hKl hKf ⟨o1, hsr⟩ ⟨o2, rfl⟩)
          have hpbq : pb < wq.drew.heap.size := by show pb < wq.heap.size; rw [hqs]; omega
          have hb1q : wr.heap.size < wq.drew.heap.size := by show wr.heap.size < wq.heap.size; omega
          have hS0 : P5 pb (off + i * 5) wr.heap.size (f i) wq.drew := ⟨g5, q0, q1, q2, q3⟩
          go_region_held3 (fun u => u.cell? ⟨pb, off + i * 5, none⟩ = some (.int .i64 (f i).c) ∧ u.cell? ⟨wr.heap.size, 0, none⟩ = some (.int .i64 (f i).m.x) ∧ u.cell? ⟨wr.heap.size, 1, none⟩ = some (.int .i64 (f i).m.y) ∧ u.cell? ⟨wr.heap.size, 2, none⟩ = some (.int .i64 (f i).m.d) ∧ u.cell? ⟨wr.heap.size, 3, none⟩ = some (.int .i64 (f i).m.e)) (first | with_reducible exact hS0 | with_reducible exact P5.below hS0 (by assumption) hpbq hb1q) (first | (go_at_call 50; refine (hsign _).mono ?_; rintro e w' ⟨rfl, hw'⟩; obtain rfl := hw'.symm; clear hw') | (go_at_call 49; refine HPUT.out.mono ?_; rintro e w4 ⟨v4, rfl, hb4, ho4⟩; have HB4 : Hid (Below w.heap.size w w4) := (bel_next HBQ.out.drew hb4); have HO4 := Hid.mk' ho4; clear ho4))
          all_goals
            go_wp2
            go_roundw
            case rel =>
              refine ⟨i + 1, by omega, by go_num, HB4.out, ?_⟩
              have ho5 := HO4.out
              cases hst : stepM K (bckA (f i)) (bckB (f i)) with
              | none =>
                rw [hst] at ho5
                exact .inr ⟨rfl, eachM_none (i := i + 1) (by rw [eachM, HM.out]; show (stepM K (bckA (f i)) (bckB (f i))).bind lim4 = none; rw [hst]; rfl) n (by omega), ho5⟩
              | some K' =>
                rw [hst] at ho5
                have hK' : (addL K (pairL (bckA (f i)) (bckB (f i)))).length ≤ 400 ∧ addL K (pairL (bckA (f i)) (bckB (f i))) = K' := by
                  unfold stepM at hst
                  split at hst
                  · rename_i hh; exact ⟨hh.2, Option.some.inj hst⟩
                  · cases hst
                refine .inl ⟨K', rfl, ?_, hK'.2 ▸ hfK, ho5⟩
                rw [eachM, HM.out]
                show (stepM K (bckA (f i)) (bckB (f i))).bind lim4 = _
                rw [hst]
                exact if_pos (hK'.2 ▸ hK'.1)
            case measure => simp [intOf]; omega
        · obtain rfl : i = n := by omega
          have HOWN := Hid.mk' hown
          have HBL := Hid.mk' hbl
          have HM := Hid.mk' hM
          clear hown hbl hM
          go_wp2
          refine bodyPost_ret (results_tmp2 rfl _ _ _) rfl ?_
          rw [HM.out]
          exact ⟨_, rfl, HBL.out, HOWN.out⟩
      · have HOWN := Hid.mk' hown
        have HBL := Hid.mk' hbl
        have HM := Hid.mk' hM
        clear hown hbl hM
        by_cases hlt : i < n
        · have hil : (i : Int) < (n : Int) := by omega
          go_wp2
          refine bodyPost_ret (results_tmp2 rfl _ _ _) rfl ?_
          rw [HM.out]
          exact ⟨_, rfl, HBL.out, HOWN.out⟩
        · obtain rfl : i = n := by omega
          go_wp2
          refine bodyPost_ret (results_tmp2 rfl _ _ _) rfl ?_
          rw [HM.out]
          exact ⟨_, rfl, HBL.out, HOWN.out⟩
end Go.Proofs.Ytahbekfhoidgjav
