/-
  Times that are shifted: the model, and what the program answers.
-/
import Derived.Test.YtahbekfhoidgjawMapShI
namespace Go.Proofs.Ytahbekfhoidgjaw
open Go.RowKit Go.Maps
set_option linter.unusedVariables false

theorem out_nilT (lo : Nat) (w : World) : Out lo w none 0 [] := ⟨⟨Nat.le_refl _, by simp, .inl rfl⟩, .inl rfl, .inl rfl⟩
theorem cell_apart {u u' : World} {bm k o : Nat} {v : Value} (hg : u.grownBy u' (some bm)) (hk : k ≠ bm) (hv : u.cell? ⟨k, o, none⟩ = some v) : u'.cell? ⟨k, o, none⟩ = some v :=
  (World.cell?_of_block (w := u) (a := ⟨k, o, none⟩) (hg.block k (World.block_lt_of_cell? u ⟨k, o, none⟩ hv) (fun e => hk (by cases e; rfl)))).trans hv
def mapShift (f : Nat → T) (n : Nat) (a b : Int) : List T × Bool := if (0 ≤ a ∧ a ≤ 100) ∧ 0 ≤ b ∧ b ≤ 100 then mapV (stShift a b) f n else ([], false)
theorem mapShift_len (f : Nat → T) (n : Nat) (a b : Int) : (mapShift f n a b).1.length ≤ 400 := by
  unfold mapShift
  split
  · exact mapV_len _ _ _
  · simp
set_option maxHeartbeats 2000000 in
theorem mapShiftI (w : World) (p : Option Addr) (n cap : Nat) (f : Nat → T) (a b : Int) (ha : Rd w p n cap f) :
    Calls Try.prog 9 #[.slice p n cap, .int .i64 a, .int .i64 b] w fun r w' => ∃ a' cap', r = .returned (.tuple #[.slice a' (mapShift f n a b).1.length cap', .bool (mapShift f n a b).2]) ∧ Below w.heap.size w w' ∧ Out w.heap.size w' a' cap' (mapShift f n a b).1 := by
  have hB := bel_two w (.cells #[.int .i64 a] 3) (.cells #[.int .i64 b] 3)
  by_cases hra : 0 ≤ a ∧ a ≤ 100
  · by_cases hrb : 0 ≤ b ∧ b ≤ 100
    · have e1 : mapShift f n a b = mapV (stShift a b) f n := if_pos ⟨hra, hrb⟩
      have hlen := mapShift_len f n a b
      rw [e1] at hlen ⊢
      have q0 : ((w.alloc (.cells #[.int .i64 a] 3)).alloc (.cells #[.int .i64 b] 3)).cell? ⟨w.heap.size, 0, none⟩ = some (.int .i64 a) := by go_simp
      have q1 : ((w.alloc (.cells #[.int .i64 a] 3)).alloc (.cells #[.int .i64 b] 3)).cell? ⟨w.heap.size + 1, 0, none⟩ = some (.int .i64 b) := by go_simp
      have hsz : ((w.alloc (.cells #[.int .i64 a] 3)).alloc (.cells #[.int .i64 b] 3)).heap.size = w.heap.size + 1 + 1 := by simp
      have hc := mapEachV ((w.alloc (.cells #[.int .i64 a] 3)).alloc (.cells #[.int .i64 b] 3)) p n cap f 24 #[.pointer (some ⟨w.heap.size, 0, none⟩), .pointer (some ⟨w.heap.size + 1, 0, none⟩)] (stShift a b) (fun W => W.cell? ⟨w.heap.size, 0, none⟩ = some (.int .i64 a) ∧ W.cell? ⟨w.heap.size + 1, 0, none⟩ = some (.int .i64 b)) (enters_of Try.func24 (by kernel_rfl) rfl) (shiftTurns _ _ a b hra.1 hra.2 hrb.1 hrb.2)
        (fun W W' bm hq hlo hg => by
          rw [hsz] at hlo
          have n1 : w.heap.size ≠ bm := by omega
          have n2 : w.heap.size + 1 ≠ bm := by omega
          exact ⟨cell_apart hg n1 hq.1, cell_apart hg n2 hq.2⟩)
        (fun W' hq hb => ⟨(hb.cell (p := ⟨w.heap.size, 0, none⟩) (by rw [hsz]; show w.heap.size < _; omega)).trans hq.1, (hb.cell (p := ⟨w.heap.size + 1, 0, none⟩) (by rw [hsz]; show w.heap.size + 1 < _; omega)).trans hq.2⟩) ⟨q0, q1⟩ (ha.below hB)
      generalize mapV (stShift a b) f n = V at hc hlen ⊢
      clear ha e1 hsz
      go_enter Try.func9, Try.ntmps9
      go_wp2_with (first
        | (go_at_call 23; refine hc.mono ?_; rintro r w1 ⟨v, rfl, hb1, ho1⟩; have HB1 := Hid.mk' (bel_next hB hb1); have HO1 := Hid.mk' (owns_lower ho1 hB.size); clear hb1 ho1)
        | (go_at_call_of 22 a; refine (okI_in a _ hra.1 hra.2).mono ?_; rintro e w' ⟨rfl, hw'⟩; obtain rfl := hw'.symm; clear hw')
        | (go_at_call_of 22 b; refine (okI_in b _ hrb.1 hrb.2).mono ?_; rintro e w' ⟨rfl, hw'⟩; obtain rfl := hw'.symm; clear hw'))
      refine bodyPost_ret (results_tmp2 rfl _ _ _) rfl ?_
      obtain ⟨a', cap', rfl, hout⟩ := out_of_owns HO1.out (by omega)
      exact ⟨a', cap', rfl, HB1.out, hout⟩
    · have e1 : mapShift f n a b = ([], false) := if_neg (fun h => hrb h.2)
      rw [e1]
      go_enter Try.func9, Try.ntmps9
      go_wp2_with (first
        | (go_at_call_of 22 a; refine (okI_in a _ hra.1 hra.2).mono ?_; rintro e w' ⟨rfl, hw'⟩; obtain rfl := hw'.symm; clear hw')
        | (go_at_call_of 22 b; refine (okI_out b _ (by omega)).mono ?_; rintro e w' ⟨rfl, hw'⟩; obtain rfl := hw'.symm; clear hw'))
      all_goals (refine bodyPost_ret (results_tmp2 rfl _ _ _) rfl ?_)
      all_goals exact ⟨none, 0, rfl, hB, out_nilT _ _⟩
  · have e1 : mapShift f n a b = ([], false) := if_neg (fun h => hra h.1)
    rw [e1]
    go_enter Try.func9, Try.ntmps9
    go_wp2_with (go_at_call_of 22 a; refine (okI_out a _ (by omega)).mono ?_; rintro e w' ⟨rfl, hw'⟩; obtain rfl := hw'.symm; clear hw')
    all_goals (refine bodyPost_ret (results_tmp2 rfl _ _ _) rfl ?_)
    all_goals exact ⟨none, 0, rfl, hB, out_nilT _ _⟩
def stepsL (n c : Int) (k : Nat) : List Value := (List.range k).map fun (j : Nat) => .int .i64 (shN n (j : Int) c)
theorem stepsL_succ (n c : Int) (k : Nat) : stepsL n c (k + 1) = stepsL n c k ++ [.int .i64 (shN n (k : Int) c)] := by simp [stepsL, List.range_succ]
theorem infoI : (Try.prog.info? 3).map (fun i => (i.zero, i.size, i.bytes)) = some (some (.int .i64 0), 1, 8) := by kernel_rfl
set_option maxRecDepth 100000 in
set_option maxHeartbeats 4000000 in
theorem l5StepsS (w : World) (c n : Int) (c0 : 0 ≤ c) (c1 : c ≤ 100) (n0 : 0 ≤ n) (n1 : n ≤ 15) :
    Calls Try.prog 19 #[.int .i64 c, .int .i64 n] w fun r w' => ∃ g cap, r = .returned (.slice (some ⟨g, 0, none⟩) (n.toNat + 1) cap) ∧ Below w.heap.size w w' ∧ n.toNat + 1 ≤ cap ∧ g < w'.heap.size ∧ ∀ k : Nat, k < n.toNat + 1 → w'.cell? ⟨g, k, none⟩ = some (.int .i64 (shN n (k : Int) c)) := by
  obtain ⟨i0, hi0, hz0, hz1, hz2⟩ := info_parts infoI
  have hO0 : (w.alloc (.cells #[] 3)).ownsRow w.heap.size 3 1 (.slice (some ⟨w.heap.size, 0, none⟩) 0 0) 0 (stepsL n c 0) := World.ownsRow_lit _ _ _ (Nat.le_refl _) (Nat.zero_le _) rfl
  have hB0 := bel_one w (.cells #[] 3)
  go_enter Try.func19, Try.ntmps19
  go_wp2
  generalize w.alloc (.cells #[] 3) = w0 at *
  go_loopw [5, 6] (fun v kk wr => ∃ k : Nat, k ≤ n.toNat + 1 ∧ kk = .int .i64 (k : Int) ∧ wr.ownsRow w.heap.size 3 1 v k (stepsL n c k) ∧ Below w.heap.size w wr) (fun _ kk _ => n.toNat + 1 - (intOf kk).toNat)
  case atStart => exact ⟨0, Nat.zero_le _, rfl, hO0, hB0⟩
  case round =>
    obtain ⟨k, hk, rfl, hown, hbl⟩ := hrel
    by_cases hlt : k < n.toNat + 1
    · have hkl : (k : Int) ≤ n := by omega
      have hch := fChoose_rangeT n k
      have hwr : IntKind.i64.wrap (n - k) = n - k := by rw [IntKind.wrap_i64]; omega
      obtain ⟨P, hpb, hsh, hpw⟩ : ∃ P : Int, (0 ≤ P ∧ P ≤ 100) ∧ fChoose n k * P % 101 = shN n k c ∧ ∀ u : World, Calls Try.prog 45 #[.int .i64 c, .int .i64 (n - k)] u fun e w' => e = .returned (.int .i64 P) ∧ w' = u := by
        refine ⟨pw c (n - k).toNat, pw_bd _ _, rfl, fun u => ?_⟩
        have := powS c (n - k) u
        have e2 : fPow c (n - k) = pw c (n - k).toNat := if_pos ⟨c0, c1, by omega, by omega⟩
        rwa [e2] at this
      have hmb := mul_bd hch.1 hch.2 hpb.1 hpb.2
      have hwm : IntKind.i64.wrap (fChoose n k * P) = fChoose n k * P := by rw [IntKind.wrap_i64]; omega
      have htm : (fChoose n k * P).tmod 101 = shN n k c := (Int.tmod_eq_emod_of_nonneg hmb.1).trans hsh
      have HO := Hid.mk' hown
      have HB := Hid.mk' hbl
      clear hch hpb hmb hsh hown hbl
      go_wp2_with (first
        | (go_at_call 44; refine (chooseS _ _ _).mono ?_; rintro e w' ⟨rfl, hw'⟩; obtain rfl := hw'.symm; clear hw')
        | (go_at_call 45; refine (hpw _).mono ?_; rintro e w' ⟨rfl, hw'⟩; obtain rfl := hw'.symm; clear hw')
        | (at_builtin; refine wpList_append_lies _ rfl (.tmp 13) (.tmp 24) 41 rfl w.heap.size 3 i0 _ 1 8 Try.underlying41 hi0 hz0 hz1 hz2 rfl (by omega) _ k (stepsL n c k) rfl (HO.out.alloc _) ⟨wr.heap.size, 0, none⟩ 1 1 [.int .i64 (shN n (k : Int) c)] rfl rfl (World.news_of_block (heap_alloc_new wr _)) (fun u hu => by rw [List.mem_singleton.1 hu]; rfl) (by omega) (by unfold maxLen; omega) (by omega) (by have := HB.out.size; simp; omega) _ rfl ?_; intro g0 cap0 w1 hown1 hgrow hat hlt1; have HB1 := Hid.mk' ((HB.out.alloc HB.out.size _).grown hgrow (Nat.le_trans HB.out.size (by simp)) (fun j hj => (HO.out.lt j hj).1)); have HO1 := Hid.mk' hown1; clear hown1 hgrow hat hlt1))
      go_roundw
      case rel => exact ⟨k + 1, by omega, by go_num, by rw [stepsL_succ]; exact HO1.out, HB1.out⟩
      case measure => simp [intOf]; omega
    · obtain rfl : k = n.toNat + 1 := by omega
      have hkl : ¬ ((n.toNat + 1 : Nat) : Int) ≤ n := by omega
      have HO := Hid.mk' hown
      have HB := Hid.mk' hbl
      clear hown hbl
      go_wp2
      go_ret
      rcases HO.out.2 with ⟨_, h0⟩ | ⟨g, cap, cur, rfl, hlo, hg, hn, hm, hs, ht⟩
      · omega
      · refine ⟨g, cap, rfl, HB.out, hn, (Array.getElem?_eq_some_iff.1 hg).1, fun k hk => ?_⟩
        have e3 : cur.toList[k]? = some (.int .i64 (shN n (k : Int) c)) := by
          have h1 : (cur.toList.take ((n.toNat + 1) * 1))[k]? = (stepsL n c (n.toNat + 1))[k]? := by rw [ht]
          rw [List.getElem?_take_of_lt (by omega)] at h1
          rw [h1, stepsL, List.getElem?_map, List.getElem?_range hk]
          rfl
        simp [World.cell?, hg]
        simpa using e3
abbrev Y5 (pb o gx k gy y bx : Nat) (t : T) (vx vy : Int) (u : World) : Prop := u.cell? ⟨pb, o, none⟩ = some (.int .i64 t.c) ∧ u.cell? ⟨gx, k, none⟩ = some (.int .i64 vx) ∧ u.cell? ⟨gy, y, none⟩ = some (.int .i64 vy) ∧ u.cell? ⟨bx, 2, none⟩ = some (.int .i64 t.m.d) ∧ u.cell? ⟨bx, 3, none⟩ = some (.int .i64 t.m.e)
theorem cell_under {u u' : World} {k o : Nat} {v : Value} (hb : Below u.heap.size u u') (hv : u.cell? ⟨k, o, none⟩ = some v) : u'.cell? ⟨k, o, none⟩ = some v := (hb.cell (p := ⟨k, o, none⟩) (World.block_lt_of_cell? u ⟨k, o, none⟩ hv)).trans hv
theorem Y5.below {pb o gx k gy y bx : Nat} {t : T} {vx vy : Int} {u u' : World} (h : Y5 pb o gx k gy y bx t vx vy u) (hb : Below u.heap.size u u') : Y5 pb o gx k gy y bx t vx vy u' :=
  ⟨cell_under hb h.1, cell_under hb h.2.1, cell_under hb h.2.2.1, cell_under hb h.2.2.2.1, cell_under hb h.2.2.2.2⟩
set_option maxRecDepth 100000 in
set_option maxHeartbeats 16000000 in
theorem mapShiftS (w : World) (p : Option Addr) (n cap : Nat) (f : Nat → T) (a b : Int) (h : Rd w p n cap f) :
    Calls Try.prog 7 #[.slice p n cap, .int .i64 a, .int .i64 b] w fun r w' => ∃ v, r = .returned (.tuple #[v, .bool (mapShift f n a b).2]) ∧ Below w.heap.size w w' ∧ w'.ownsRow w.heap.size 40 5 v (mapShift f n a b).1.length (cellsL (mapShift f n a b).1) := by
  have HA := Hid.mk' h
  have hn : (n : Int) ≤ 140737488351232 := by have := h.2.1; omega
  have hO0 := owns_none w w.heap.size (Nat.le_refl _)
  have hB0 := bel_one w (.cells #[] 40)
  clear h
  cases hpa : polOk n f
  · have e1 : mapShift f n a b = ([], false) := by simp [mapShift, mapV, hpa]
    rw [e1]
    go_enter Try.func7, Try.ntmps7
    go_wp2_with (go_at_call 17; refine (polOkS _ _ _ _ f (HA.out.below hB0)).mono ?_; rw [hpa]; rintro r w1 ⟨rfl, hb1⟩; have HB1 := Hid.mk' (bel_next hB0 hb1); have HO1 := Hid.mk' (owns_below hO0 hb1); clear hb1)
    all_goals (refine bodyPost_ret (results_tmp2 rfl _ _ _) rfl ?_)
    all_goals exact ⟨_, rfl, HB1.out, HO1.out⟩
  by_cases hra : 0 ≤ a ∧ a ≤ 100
  case neg =>
    have e1 : mapShift f n a b = ([], false) := if_neg (fun h => hra h.1)
    rw [e1]
    go_enter Try.func7, Try.ntmps7
    go_wp2_with (first
      | (go_at_call 17; refine (polOkS _ _ _ _ f (HA.out.below hB0)).mono ?_; rw [hpa]; rintro r w1 ⟨rfl, hb1⟩; have HB1 := Hid.mk' (bel_next hB0 hb1); have HO1 := Hid.mk' (owns_below hO0 hb1); clear hb1)
      | (go_at_call_of 18 a; refine (okS_out a _ (by omega)).mono ?_; rintro e w' ⟨rfl, hw'⟩; obtain rfl := hw'.symm; clear hw'))
    all_goals (refine bodyPost_ret (results_tmp2 rfl _ _ _) rfl ?_)
    all_goals exact ⟨_, rfl, HB1.out, HO1.out⟩
  by_cases hrb : 0 ≤ b ∧ b ≤ 100
  case neg =>
    have e1 : mapShift f n a b = ([], false) := if_neg (fun h => hrb h.2)
    rw [e1]
    go_enter Try.func7, Try.ntmps7
    go_wp2_with (first
      | (go_at_call 17; refine (polOkS _ _ _ _ f (HA.out.below hB0)).mono ?_; rw [hpa]; rintro r w1 ⟨rfl, hb1⟩; have HB1 := Hid.mk' (bel_next hB0 hb1); have HO1 := Hid.mk' (owns_below hO0 hb1); clear hb1)
      | (go_at_call_of 18 a; refine (okS_in a _ hra.1 hra.2).mono ?_; rintro e w' ⟨rfl, hw'⟩; obtain rfl := hw'.symm; clear hw')
      | (go_at_call_of 18 b; refine (okS_out b _ (by omega)).mono ?_; rintro e w' ⟨rfl, hw'⟩; obtain rfl := hw'.symm; clear hw'))
    all_goals (refine bodyPost_ret (results_tmp2 rfl _ _ _) rfl ?_)
    all_goals exact ⟨_, rfl, HB1.out, HO1.out⟩
  have e1 : mapShift f n a b = mulO (eachM (stShift a b) f n) := by simp [mapShift, mapV, hpa, hra, hrb]
  rw [e1]
  clear e1
  have l1 := (good_ok hpa).1
  have HPA := Hid.mk' hpa
  go_enter Try.func7, Try.ntmps7
  go_wp2_with (first
    | (go_at_call 17; refine (polOkS _ _ _ _ f (HA.out.below hB0)).mono ?_; rw [hpa]; rintro r w1 ⟨rfl, hb1⟩; have HB1 := Hid.mk' (bel_next hB0 hb1); have HO1 := Hid.mk' (owns_below hO0 hb1); clear hb1)
    | (go_at_call_of 18 a; refine (okS_in a _ hra.1 hra.2).mono ?_; rintro e w' ⟨rfl, hw'⟩; obtain rfl := hw'.symm; clear hw')
    | (go_at_call_of 18 b; refine (okS_in b _ hrb.1 hrb.2).mono ?_; rintro e w' ⟨rfl, hw'⟩; obtain rfl := hw'.symm; clear hw'))
  clear hO0 hB0
  go_loopw [8, 9] (fun v ii wr => ∃ (i : Nat) (K : List T), i ≤ n ∧ ii = .int .i64 (i : Int) ∧ eachM (stShift a b) f i = some K ∧ Falls K ∧ wr.ownsRow w.heap.size 40 5 v K.length (cellsL K) ∧ Below w.heap.size w wr) (fun _ ii _ => n - (intOf ii).toNat)
  case atStart => exact ⟨0, [], Nat.zero_le _, rfl, rfl, falls_nil, HO1.out, HB1.out⟩
  case round =>
    obtain ⟨i, K, hi, rfl, hM, hKf, hown, hbl⟩ := hrel
    by_cases hlt : i < n
    · have hil : (i : Int) < (n : Int) := by omega
      have hfi := (fl_of_ok HPA.out).2 i hlt
      have hKl := eachM_len i K hM
      have HM := Hid.mk' hM
      have HOWN := Hid.mk' hown
      have HBL := Hid.mk' hbl
      clear hown hbl hM
      have hri := HA.out.below HBL.out
      rcases hri.2.2 with h0 | ⟨pb, off, hpe, hblt, hcl⟩
      · omega
      subst hpe
      obtain ⟨g0, g1, g2, g3, g4⟩ := hcl i hlt
      clear hcl hri
      have hdb := M.ok_iff.1 hfi.1
      go_wp2_with fail
      have hq := M4.box wr 38 (f i).m.x (f i).m.y (f i).m.d (f i).m.e
      obtain ⟨q0, q1, q2, q3⟩ := hq
      have g5 := cell_under (bel_one wr (.cells #[.int .i64 (f i).m.x, .int .i64 (f i).m.y, .int .i64 (f i).m.d, .int .i64 (f i).m.e] 38)) g0
      have HBQ := Hid.mk' (bel_next HBL.out (bel_one wr (.cells #[.int .i64 (f i).m.x, .int .i64 (f i).m.y, .int .i64 (f i).m.d, .int .i64 (f i).m.e] 38)))
      have HOQ := Hid.mk' (owns_below HOWN.out (bel_one wr (.cells #[.int .i64 (f i).m.x, .int .i64 (f i).m.y, .int .i64 (f i).m.d, .int .i64 (f i).m.e] 38)))
      clear g0 g1 g2 g3 g4
      generalize wr.alloc (.cells #[.int .i64 (f i).m.x, .int .i64 (f i).m.y, .int .i64 (f i).m.d, .int .i64 (f i).m.e] 38) = wq at HBQ HOQ q0 q1 q2 q3 g5 ⊢
      generalize wr.heap.size = bx at *
      refine (l5StepsS _ a (f i).m.x hra.1 hra.2 (by omega) (by omega)).mono ?_
      rintro r w2 ⟨gx, cx, rfl, hb2, hcx, _, hxs⟩
      generalize hLX : (f i).m.x.toNat + 1 = LX at *
      have HLX := Hid.mk' hLX
      clear hLX
      have p1 := cell_under hb2 q1
      have HB2 := Hid.mk' hb2
      have HXS := Hid.mk' hxs
      have HQ := Hid.mk' (And.intro g5 (And.intro q2 q3))
      clear hb2 hxs q0 q1 q2 q3 g5
      go_wp2_with fail
      refine (l5StepsS _ b (f i).m.y hrb.1 hrb.2 (by omega) (by omega)).mono ?_
      rintro r w3 ⟨gy, cy, rfl, hb3, hcy, _, hys⟩
      generalize hLY : (f i).m.y.toNat + 1 = LY at *
      have HLY := Hid.mk' hLY
      clear hLY
      have HB3 := Hid.mk' (bel_next (bel_next HBQ.out HB2.out) hb3)
      have HO3 := Hid.mk' (owns_below (owns_below HOQ.out HB2.out) hb3)
      have HF : Hid (∀ k : Nat, k < LX → ∀ y : Nat, y < LY → Y5 pb (off + i * 5) gx k gy y bx (f i) (shN (f i).m.x k a) (shN (f i).m.y y b) w3) := fun k hk y hy => ⟨cell_under hb3 (cell_under HB2.out HQ.out.1), cell_under hb3 (HXS.out k hk), hys y hy, cell_under hb3 (cell_under HB2.out HQ.out.2.1), cell_under hb3 (cell_under HB2.out HQ.out.2.2)⟩
      clear hb3 hys p1 HXS HQ HB2 HBQ HOQ
      go_wp2_with fail
      go_loopw [8, 13] (fun v kk wr2 => ∃ k : Nat, k ≤ LX ∧ kk = .int .i64 (k : Int) ∧ wr2.ownsRow w.heap.size 40 5 v (shAll a b (f i) K k).length (cellsL (shAll a b (f i) K k)) ∧ Below w3.heap.size w3 wr2) (fun _ kk _ => LX - (intOf kk).toNat)
      case atStart => exact ⟨0, Nat.zero_le _, rfl, HO3.out, Below.refl _ _⟩
      case round =>
        obtain ⟨k, hk, rfl, hown, hbl⟩ := hrel
        have hal := shAll_len a b (f i) K k
        have hkm : k * ((f i).m.y.toNat + 1) ≤ 16 * 16 := Nat.mul_le_mul (by have := HLX.out; omega) (by omega)
        by_cases hlk : k < LX
        · have hkl : (k : Int) < (LX : Int) := by omega
          have hki : (k : Int) ≤ (f i).m.x := by have := HLX.out; omega
          have hfa := Hid.mk' (shAll_falls (a := a) (b := b) hfi.1 hKf k (by have := HLX.out; omega))
          have HO4 := Hid.mk' hown
          have HB4 := Hid.mk' hbl
          clear hown hbl
          go_wp2_with fail
          go_loopw [8, 14] (fun v yy wr3 => ∃ y : Nat, y ≤ LY ∧ yy = .int .i64 (y : Int) ∧ wr3.ownsRow w.heap.size 40 5 v (shRow a b (f i) k (shAll a b (f i) K k) y).length (cellsL (shRow a b (f i) k (shAll a b (f i) K k) y)) ∧ Below w3.heap.size w3 wr3) (fun _ yy _ => LY - (intOf yy).toNat)
          case atStart => exact ⟨0, Nat.zero_le _, rfl, HO4.out, HB4.out⟩
          case round =>
            obtain ⟨y, hy, rfl, hown, hbl⟩ := hrel
            by_cases hly : y < LY
            · have hyl : (y : Int) < (LY : Int) := by omega
              have hyi : (y : Int) ≤ (f i).m.y := by have := HLY.out; omega
              have hrl := shRow_len a b (f i) k (shAll a b (f i) K k) y
              have hrf := shRow_falls (a := a) (b := b) hfi.1 hki hfa.out y (by have := HLY.out; omega)
              have hsv := shV_range a b (f i) k y
              have hvx := shN_range (f i).m.x k a
              have hvy := shN_range (f i).m.y y b
              have hm1 := mul_bd (show 0 ≤ (f i).c by omega) hfi.2.2 hvx.1 hvx.2
              have hm2 := mul_bd (show 0 ≤ (f i).c * shN (f i).m.x k a % 101 by omega) (show (f i).c * shN (f i).m.x k a % 101 ≤ 100 by omega) hvy.1 hvy.2
              have w1a : IntKind.i64.wrap ((f i).c * shN (f i).m.x k a) = (f i).c * shN (f i).m.x k a := by rw [IntKind.wrap_i64]; omega
              have t1a : ((f i).c * shN (f i).m.x k a).tmod 101 = (f i).c * shN (f i).m.x k a % 101 := Int.tmod_eq_emod_of_nonneg hm1.1
              have w2a : IntKind.i64.wrap ((f i).c * shN (f i).m.x k a % 101 * shN (f i).m.y y b) = (f i).c * shN (f i).m.x k a % 101 * shN (f i).m.y y b := by rw [IntKind.wrap_i64]; omega
              have t2a : ((f i).c * shN (f i).m.x k a % 101 * shN (f i).m.y y b).tmod 101 = shV a b (f i) k y := Int.tmod_eq_emod_of_nonneg hm2.1
              have hS0 : Y5 pb (off + i * 5) gx k gy y bx (f i) (shN (f i).m.x k a) (shN (f i).m.y y b) wr.drew := (HF.out k hlk y hly).below hbl.drew
              have HPUT := Hid.mk' (l4PutS wr.drew w.heap.size _ (shRow a b (f i) k (shAll a b (f i) K k) y) (shV a b (f i) k y) k y (f i).m.d (f i).m.e (owns_below hown (Below.refl _ _).drew) (bel_next HB3.out hbl).drew.size (by omega) (cok_falls hrf) hsv.1 hsv.2)
              have HBW := Hid.mk' hbl.drew
              clear hm1 hm2 hvx hvy hrf hrl hown hbl
              go_wp2_with fail
              go_region_held3 (fun u => u.cell? ⟨pb, off + i * 5, none⟩ = some (.int .i64 (f i).c) ∧ u.cell? ⟨gx, k, none⟩ = some (.int .i64 (shN (f i).m.x k a)) ∧ u.cell? ⟨gy, y, none⟩ = some (.int .i64 (shN (f i).m.y y b)) ∧ u.cell? ⟨bx, 2, none⟩ = some (.int .i64 (f i).m.d) ∧ u.cell? ⟨bx, 3, none⟩ = some (.int .i64 (f i).m.e)) (first | with_reducible exact hS0 | with_reducible exact Y5.below hS0 hb5) (first | (go_at_call 20; refine HPUT.out.mono ?_; rintro e w5 ⟨v5, rfl, hb5, ho5⟩; have HB5 := Hid.mk' (bel_next HBW.out hb5); have HO5 := Hid.mk' ho5; clear ho5))
              all_goals
                go_wp2
                go_roundw
                case rel => exact ⟨y + 1, by omega, by go_num, HO5.out, HB5.out⟩
                case measure => simp [intOf]; omega
            · have ey : LY = y := by omega
              subst ey
              have hyl : ¬ (LY : Int) < (LY : Int) := by omega
              have HO5 := Hid.mk' hown
              have HB5 := Hid.mk' hbl
              clear hown hbl
              go_wp2
              go_roundw
              case rel => exact ⟨k + 1, by omega, by go_num, by rw [shAll, HLY.out]; exact HO5.out, HB5.out⟩
              case measure => simp [intOf]; omega
        · have ek : LX = k := by omega
          subst ek
          have hkl : ¬ (LX : Int) < (LX : Int) := by omega
          have hfa := shAll_falls (a := a) (b := b) hfi.1 hKf LX (by have := HLX.out; omega)
          have HO5 := Hid.mk' hown
          have HB5 := Hid.mk' (bel_next HB3.out hbl)
          obtain ⟨pv, cv, hpv, _⟩ := out_of_owns hown (by omega)
          subst hpv
          clear hown hbl
          by_cases h4 : (shAll a b (f i) K LX).length ≤ 400
          · have h4' : ((shAll a b (f i) K LX).length : Int) ≤ 400 := by omega
            have HST : Hid (eachM (stShift a b) f (i + 1) = some (shAll a b (f i) K LX)) := by
              show _ = _
              rw [eachM, HM.out]
              show (stShift a b K (f i)).bind lim4 = _
              rw [stShift, HLX.out]
              exact if_pos h4
            go_wp2
            go_roundw
            case rel => exact ⟨i + 1, _, by omega, by go_num, HST.out, hfa, HO5.out, HB5.out⟩
            case measure => simp [intOf]; omega
          · have h4' : (400 : Int) < ((shAll a b (f i) K LX).length : Int) := by omega
            have HST : Hid (eachM (stShift a b) f n = none) := eachM_none (i := i + 1) (by rw [eachM, HM.out]; show (stShift a b K (f i)).bind lim4 = _; rw [stShift, HLX.out]; exact if_neg h4) n (by omega)
            go_wp2
            refine bodyPost_ret (results_tmp2 rfl _ _ _) rfl ?_
            rw [HST.out]
            exact ⟨_, rfl, HB5.out.alloc HB5.out.size _, owns_none _ w.heap.size HB5.out.size⟩
    · obtain rfl : i = n := by omega
      have HM := Hid.mk' hM
      have HOWN := Hid.mk' hown
      have HBL := Hid.mk' hbl
      clear hown hbl hM
      go_wp2
      refine bodyPost_ret (results_tmp2 rfl _ _ _) rfl ?_
      rw [HM.out]
      exact ⟨_, rfl, HBL.out, HOWN.out⟩
end Go.Proofs.Ytahbekfhoidgjaw
