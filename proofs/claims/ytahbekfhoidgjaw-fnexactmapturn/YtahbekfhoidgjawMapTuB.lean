/-
  Each time and each slope less than 0: the program and the model.
-/
import Derived.Test.YtahbekfhoidgjawMapNum
namespace Go.Proofs.Ytahbekfhoidgjaw
open Go.RowKit Go.Maps
set_option linter.unusedVariables false

def dg (t : T) : Int := t.m.x + t.m.y + t.m.d + t.m.e
def stTurn (K : List T) (t : T) : Option (List T) := some (putT (sg t (dg t)) t.m K)
theorem B5.grown {bx b : Nat} {t : T} {u u' : World} (h : B5 bx t u) (hg : u.grownBy u' (some b)) (hne : bx ≠ b) : B5 bx t u' := by
  have hl := h.lt
  have hc : ∀ o, u'.cell? ⟨bx, o, none⟩ = u.cell? ⟨bx, o, none⟩ := fun o => World.cell?_of_block (w := u) (a := ⟨bx, o, none⟩) (hg.block bx hl (fun e => hne (by cases e; rfl)))
  exact ⟨(hc 0).trans h.1, (hc 1).trans h.2.1, (hc 2).trans h.2.2.1, (hc 3).trans h.2.2.2.1, (hc 4).trans h.2.2.2.2⟩
set_option maxRecDepth 100000 in
set_option maxHeartbeats 4000000 in
theorem turnTurns : Turns 38 #[] stTurn (fun _ => True) := by
  intro W b c K t hS hK hKc hl ht _
  have hdb := M.ok_iff.1 ht.1
  have hsr := sg_range t (dg t)
  have hput := putT_facts hK ht.1 hsr.1 hsr.2
  have hbl := hS.lt
  have HS := Hid.mk' hS
  have hdeg : ∀ u : World, Calls Try.prog 40 #[.agg #[.int .i64 t.m.x, .int .i64 t.m.y, .int .i64 t.m.d, .int .i64 t.m.e]] u fun e w' => e = .returned (.int .i64 (dg t)) ∧ Below u.heap.size u w' := fun u => degreeI _ _ _ _ u ht.1
  have hd0 : 0 ≤ dg t ∧ dg t ≤ 60 := by unfold dg; omega
  have hnum : ∀ u : World, Calls Try.prog 39 #[.agg #[.int .i64 t.c, .int .i64 t.m.x, .int .i64 t.m.y, .int .i64 t.m.d, .int .i64 t.m.e], .int .i64 (dg t)] u fun e w' => e = .returned (.int .i64 (sg t (dg t))) ∧ Below u.heap.size u w' := fun u => mapNumberI t _ u (by omega) ht.2.2 hd0.1 (by omega)
  have hbox : B5 W.heap.size t (W.alloc (.cells #[.int .i64 t.c, .int .i64 t.m.x, .int .i64 t.m.y, .int .i64 t.m.d, .int .i64 t.m.e] 40)).drew := B5.box W t
  have hB0 : Below W.heap.size W (W.alloc (.cells #[.int .i64 t.c, .int .i64 t.m.x, .int .i64 t.m.y, .int .i64 t.m.d, .int .i64 t.m.e] 40)).drew := (bel_one W (.cells #[.int .i64 t.c, .int .i64 t.m.x, .int .i64 t.m.y, .int .i64 t.m.d, .int .i64 t.m.e] 40)).drew
  clear hS
  show Calls Try.prog 38 #[.map (some b), .agg #[.int .i64 t.c, .int .i64 t.m.x, .int .i64 t.m.y, .int .i64 t.m.d, .int .i64 t.m.e]] W _
  go_enter Try.func38, Try.ntmps38
  go_wp2_with fail
  go_region_held3 (fun u => u.cell? ⟨W.heap.size, 0, none⟩ = some (.int .i64 t.c) ∧ u.cell? ⟨W.heap.size, 1, none⟩ = some (.int .i64 t.m.x) ∧ u.cell? ⟨W.heap.size, 2, none⟩ = some (.int .i64 t.m.y) ∧ u.cell? ⟨W.heap.size, 3, none⟩ = some (.int .i64 t.m.d) ∧ u.cell? ⟨W.heap.size, 4, none⟩ = some (.int .i64 t.m.e)) (first | with_reducible exact hbox | with_reducible exact B5.below hbox hb1 (B5.lt hbox) | with_reducible exact B5.below (B5.below hbox hb1 (B5.lt hbox)) hb2 (B5.lt (B5.below hbox hb1 (B5.lt hbox))) | with_reducible exact B5.grown (B5.below (B5.below hbox hb1 (B5.lt hbox)) hb2 (B5.lt (B5.below hbox hb1 (B5.lt hbox)))) hg3 (by omega)) (first | (go_at_call 40; refine (hdeg _).mono ?_; rintro e w1 ⟨rfl, hb1⟩) | (go_at_call 39; refine (hnum _).mono ?_; rintro e w2 ⟨rfl, hb2⟩) | (go_at_call 27; refine (sumAddR b 65536 c _ t.m _ ht.1 (HS.out.grown (grown_of_below (bel_next (bel_next hB0 hb1) hb2)) (by simp)) (by unfold maxLen; omega) hsr.1 hsr.2).mono ?_; rintro e w3 ⟨rfl, hs3, hg3⟩))
  have HS3 := Hid.mk' hs3.cap
  have HG3 := Hid.mk' (World.grownBy.trans (⟨(bel_next (bel_next hB0 hb1) hb2).os, (bel_next (bel_next hB0 hb1) hb2).tape, (bel_next (bel_next hB0 hb1) hb2).output, (bel_next (bel_next hB0 hb1) hb2).size, fun k hk _ => (bel_next (bel_next hB0 hb1) hb2).block k hk⟩ : W.grownBy w2 (some b)) hg3)
  clear hs3 hg3 hb1 hb2
  go_wp2
  go_ret
  refine ⟨HG3.out, .inl ⟨_, _, rfl, rfl, HS3.out, hput.1, fun m hmo => ?_⟩⟩
  rw [hput.2]
  unfold updC
  split
  · rw [hKc _ ht.1]
  · exact hKc m hmo
/-- the first i terms, turned. -/
def turnL (f : Nat → T) : Nat → List T
  | 0 => []
  | i + 1 => turnL f i ++ [⟨sg (f i) (dg (f i)), (f i).m⟩]
theorem turnL_len (f : Nat → T) : ∀ i, (turnL f i).length = i
  | 0 => rfl
  | i + 1 => by rw [turnL, List.length_append, turnL_len f i]; rfl
theorem turnL_mem {f : Nat → T} {t : T} : ∀ {i : Nat}, t ∈ turnL f i → ∃ j, j < i ∧ t = ⟨sg (f j) (dg (f j)), (f j).m⟩
  | 0, h => by cases h
  | i + 1, h => by
    rw [turnL] at h
    rcases List.mem_append.1 h with h | h
    · obtain ⟨j, hj, h2⟩ := turnL_mem h
      exact ⟨j, by omega, h2⟩
    · exact ⟨i, by omega, List.mem_singleton.1 h⟩
theorem lf_atT {L : List T} {i : Nat} (h : i < L.length) : lf L i = L[i] := by
  unfold lf
  rw [List.getD_eq_getElem?_getD, List.getElem?_eq_getElem h]; rfl
theorem addT_tailT (L : List T) (t : T) (h : ∀ u ∈ L, 0 < M.ord 1 u.m t.m) : ∀ (r i : Nat), i + r = L.length → addT (lf L) L.length (fun _ => t) 1 i 0 = L.drop i ++ [t]
  | 0, i, hi => by
    rw [addT_lt (by omega) (.inl (by omega)), addT_end (by omega) (by omega), List.drop_eq_nil_of_le (by omega)]; rfl
  | r + 1, i, hi => by
    have hl : i < L.length := by omega
    rw [addT_gt hl (.inr (by rw [lf_atT hl]; exact h _ (List.getElem_mem hl))), addT_tailT L t h r (i + 1) (by omega), List.drop_eq_getElem_cons hl, lf_atT hl]; rfl
theorem put_turnL {f : Nat → T} {n i : Nat} (h : polOk n f = true) (hi : i < n) : putT (sg (f i) (dg (f i))) (f i).m (turnL f i) = turnL f (i + 1) := by
  have hfl := fl_of_ok h
  have hfi := hfl.2 i hi
  have hpos := sg_pos (t := f i) (n := dg (f i)) hfi.2.1 hfi.2.2
  rw [putT, if_neg (by omega), turnL]
  rw [addT_tailT (turnL f i) ⟨sg (f i) (dg (f i)), (f i).m⟩ (fun u hu => ?_) (turnL f i).length 0 (by omega)]
  · rfl
  · obtain ⟨j, hj, rfl⟩ := turnL_mem hu
    exact (ord_pos (hfl.2 j (by omega)).1 hfi.1).2 (hfl.1 j i hj hi)
theorem turnL_each {f : Nat → T} {n : Nat} (h : polOk n f = true) : ∀ i, i ≤ n → eachM stTurn f i = some (turnL f i)
  | 0, _ => rfl
  | i + 1, hi => by
    have hn := (good_ok h).1
    rw [eachM, turnL_each h i (by omega)]
    show lim4 (putT (sg (f i) (dg (f i))) (f i).m (turnL f i)) = _
    rw [put_turnL h (by omega)]
    exact if_pos (by rw [turnL_len]; omega)
def mapTurn (f : Nat → T) (n : Nat) : List T := if polOk n f = true then turnL f n else []
theorem mapTurn_is (f : Nat → T) (n : Nat) : (mapV stTurn f n).1 = mapTurn f n := by
  unfold mapV mapTurn
  split
  · rename_i h
    rw [turnL_each h n (Nat.le_refl _)]
    rfl
  · rfl
theorem mapTurn_len (f : Nat → T) (n : Nat) : (mapTurn f n).length ≤ 400 := by rw [← mapTurn_is]; exact mapV_len _ _ _
set_option maxHeartbeats 1000000 in
theorem mapTurnI (w : World) (a : Option Addr) (n cap : Nat) (f : Nat → T) (ha : Rd w a n cap f) :
    Calls Try.prog 16 #[.slice a n cap] w fun r w' => ∃ a' cap', r = .returned (.slice a' (mapTurn f n).length cap') ∧ Below w.heap.size w w' ∧ Out w.heap.size w' a' cap' (mapTurn f n) := by
  have hc := mapEachV w a n cap f 38 #[] stTurn (fun _ => True) (enters_of Try.func38 (by kernel_rfl) rfl) turnTurns (fun _ _ _ _ _ _ => trivial) (fun _ _ _ => trivial) trivial ha
  rw [mapTurn_is] at hc
  have hlen := mapTurn_len f n
  go_enter Try.func16, Try.ntmps16
  go_wp2_with (go_at_call 23; refine hc.mono ?_; rintro r w1 ⟨v, rfl, hb1, ho1⟩)
  go_ret
  obtain ⟨a', cap', rfl, hout⟩ := out_of_owns ho1 (by omega)
  exact ⟨a', cap', rfl, hb1, hout⟩
abbrev R5 (pb o : Nat) (t : T) (u : World) : Prop := u.cell? ⟨pb, o, none⟩ = some (.int .i64 t.c) ∧ u.cell? ⟨pb, o + 1, none⟩ = some (.int .i64 t.m.x) ∧ u.cell? ⟨pb, o + 2, none⟩ = some (.int .i64 t.m.y) ∧ u.cell? ⟨pb, o + 3, none⟩ = some (.int .i64 t.m.d) ∧ u.cell? ⟨pb, o + 4, none⟩ = some (.int .i64 t.m.e)
theorem R5.same {pb o : Nat} {t : T} {u u' : World} (h : R5 pb o t u) (hb : u'.heap[pb]? = u.heap[pb]?) : R5 pb o t u' :=
  have hc : ∀ o, u'.cell? ⟨pb, o, none⟩ = u.cell? ⟨pb, o, none⟩ := fun o => World.cell?_of_block (w := u) (a := ⟨pb, o, none⟩) hb
  ⟨(hc _).trans h.1, (hc _).trans h.2.1, (hc _).trans h.2.2.1, (hc _).trans h.2.2.2.1, (hc _).trans h.2.2.2.2⟩
theorem R5.below {pb o : Nat} {t : T} {u u' : World} (h : R5 pb o t u) (hb : Below u.heap.size u u') (h2 : pb < u.heap.size) : R5 pb o t u' := h.same (hb.block pb h2)
theorem R5.lt {pb o : Nat} {t : T} {u : World} (h : R5 pb o t u) : pb < u.heap.size := World.block_lt_of_cell? u ⟨pb, o, none⟩ h.1
theorem R5.alloc {pb o : Nat} {t : T} {u : World} (h : R5 pb o t u) (x : Obj) : R5 pb o t (u.alloc x) := h.below (bel_one u x) h.lt
theorem R5.grown {pb o : Nat} {t : T} {u u' : World} {row : Option Nat} (h : R5 pb o t u) (hg : u.grownBy u' row) (hne : some pb ≠ row) : R5 pb o t u' := h.same (hg.block pb h.lt hne)
set_option maxRecDepth 100000 in
set_option maxHeartbeats 16000000 in
theorem mapTurnS (w : World) (a : Option Addr) (n cap : Nat) (f : Nat → T) (h : Rd w a n cap f) :
    Calls Try.prog 15 #[.slice a n cap] w fun r w' => ∃ v, r = .returned v ∧ Below w.heap.size w w' ∧ w'.ownsRow w.heap.size 40 5 v (mapTurn f n).length (cellsL (mapTurn f n)) := by
  obtain ⟨i0, hi0, hz0, hz1, hz2⟩ := info_parts infoT
  have HA := Hid.mk' h
  have hn : (n : Int) ≤ 140737488351232 := by have := h.2.1; omega
  have hO0 := owns_none w w.heap.size (Nat.le_refl _)
  have hB0 := bel_one w (.cells #[] 40)
  clear h
  cases hpa : polOk n f
  · have e1 : mapTurn f n = [] := by simp [mapTurn, hpa]
    rw [e1]
    go_enter Try.func15, Try.ntmps15
    go_wp2
    generalize w.alloc (.cells #[] 40) = w0 at *
    go_loopw [3, 4] (fun v ii wr => ii = .int .i64 0 ∧ wr.ownsRow w.heap.size 40 5 v 0 (cellsL []) ∧ Below w.heap.size w wr) (fun _ _ _ => 0)
    case atStart => exact ⟨rfl, hO0, hB0⟩
    case round =>
      obtain ⟨rfl, hown, hbl⟩ := hrel
      by_cases h0 : n = 0
      · subst h0
        go_wp2
        go_ret
        exact ⟨_, rfl, hbl, hown⟩
      · have hpos : (0 : Int) < (n : Int) := by omega
        have HOWN := Hid.mk' hown
        have HBL := Hid.mk' hbl
        clear hown hbl
        go_wp2_with (go_at_call 17; refine (polOkS _ _ _ _ f (HA.out.below HBL.out)).mono ?_; rw [hpa]; rintro r w1 ⟨rfl, hb1⟩; have HB1 := Hid.mk' hb1; clear hb1)
        go_ret
        exact ⟨_, rfl, bel_next HBL.out HB1.out, owns_below HOWN.out HB1.out⟩
  · have e1 : mapTurn f n = turnL f n := by simp [mapTurn, hpa]
    rw [e1, turnL_len]
    have l1 := (good_ok hpa).1
    have HPA := Hid.mk' hpa
    go_enter Try.func15, Try.ntmps15
    go_wp2
    generalize w.alloc (.cells #[] 40) = w0 at *
    go_loopw [3, 4] (fun v ii wr => ∃ i : Nat, i ≤ n ∧ ii = .int .i64 (i : Int) ∧ wr.ownsRow w.heap.size 40 5 v i (cellsL (turnL f i)) ∧ Below w.heap.size w wr) (fun _ ii _ => n - (intOf ii).toNat)
    case atStart => exact ⟨0, Nat.zero_le _, rfl, hO0, hB0⟩
    case round =>
      obtain ⟨i, hi, rfl, hown, hbl⟩ := hrel
      by_cases hlt : i < n
      · have hil : (i : Int) < (n : Int) := by omega
        have hfi := (fl_of_ok HPA.out).2 i hlt
        have HOWN := Hid.mk' hown
        have HBL := Hid.mk' hbl
        clear hown hbl
        have hri := HA.out.below HBL.out
        rcases hri.2.2 with h0 | ⟨pb, off, hpe, hblt, hcl⟩
        · omega
        subst hpe
        clear hcl hri
        have hpw : pb < w.heap.size := by
          rcases HA.out.2.2 with h0 | ⟨pb', off', hpe', hblt', _⟩
          · omega
          · cases hpe'; exact hblt'
        have hdb := M.ok_iff.1 hfi.1
        have hd0 : 0 ≤ dg (f i) ∧ dg (f i) ≤ 60 := by unfold dg; omega
        have hsr := sg_range (f i) (dg (f i))
        have hsg := sgn_range (dg (f i))
        have hmb := mul_bd (show 0 ≤ (f i).c by omega) hfi.2.2 hsg.1 hsg.2
        have hwm : IntKind.i64.wrap ((f i).c * sgn (dg (f i))) = (f i).c * sgn (dg (f i)) := by rw [IntKind.wrap_i64]; omega
        have htm : ((f i).c * sgn (dg (f i))).tmod 101 = sg (f i) (dg (f i)) := Int.tmod_eq_emod_of_nonneg hmb.1
        have hsign : ∀ u : World, Calls Try.prog 36 #[.int .i64 (dg (f i))] u fun e w' => e = .returned (.int .i64 (sgn (dg (f i)))) ∧ w' = u := fun u => l5SignS _ u hd0.1 (by omega)
        have hdeg : ∀ u : World, Calls Try.prog 37 #[.agg #[.int .i64 (f i).m.x, .int .i64 (f i).m.y, .int .i64 (f i).m.d, .int .i64 (f i).m.e]] u fun e w' => e = .returned (.int .i64 (dg (f i))) ∧ Below u.heap.size u w' := fun u => by
          have := monDegS (f i).m.x (f i).m.y (f i).m.d (f i).m.e u
          have e2 : M.deg ⟨(f i).m.x, (f i).m.y, (f i).m.d, (f i).m.e⟩ = dg (f i) := if_pos hfi.1
          rwa [e2] at this
        clear hsg hmb hdb
        go_wp2_with (go_at_call 17; refine (polOkS _ _ _ _ f (HA.out.below HBL.out)).mono ?_; rw [hpa]; rintro r w1 ⟨rfl, hb1⟩; have HB1 := Hid.mk' hb1; have HB1w := Hid.mk' (bel_next HBL.out hb1); have hr1 := HA.out.below HB1w.out; have hc1 := (hr1.2.2.resolve_left (by omega)); obtain ⟨pb', off', hpe', hblt', hcl'⟩ := hc1; cases hpe'; obtain ⟨g0, g1, g2, g3, g4⟩ := hcl' i hlt; clear hb1 hr1 hcl')
        have hS0 : R5 pb (off + i * 5) (f i) w1.drew := ⟨g0, g1, g2, g3, g4⟩
        have HO1 := Hid.mk' (owns_below (owns_below HOWN.out HB1.out) (Below.refl _ _).drew)
        have HBW := Hid.mk' HB1w.out.drew
        clear g0 g1 g2 g3 g4
        go_region_held3 (fun u => u.cell? ⟨pb, off + i * 5, none⟩ = some (.int .i64 (f i).c) ∧ u.cell? ⟨pb, off + i * 5 + 1, none⟩ = some (.int .i64 (f i).m.x) ∧ u.cell? ⟨pb, off + i * 5 + 2, none⟩ = some (.int .i64 (f i).m.y) ∧ u.cell? ⟨pb, off + i * 5 + 3, none⟩ = some (.int .i64 (f i).m.d) ∧ u.cell? ⟨pb, off + i * 5 + 4, none⟩ = some (.int .i64 (f i).m.e)) (first | with_reducible exact hS0 | with_reducible exact R5.below hS0 hb2 (R5.lt hS0) | with_reducible exact R5.alloc (R5.below hS0 hb2 (R5.lt hS0)) _ | with_reducible exact R5.grown (R5.alloc (R5.below hS0 hb2 (R5.lt hS0)) _) hgrow (fun hh => absurd (HO2.out.lt pb hh.symm).1 (by omega))) (first | (refine step_append_lies _ (by rfl) (.tmp 16) (.tmp 37) 24 (by rfl) w.heap.size 40 i0 _ 5 40 Try.underlying24 hi0 hz0 hz1 hz2 rfl (by omega) _ i (cellsL (turnL f i)) (by rfl) (HO2.out.alloc _) ⟨w2.heap.size, 0, none⟩ 1 1 (cellsL [⟨sg (f i) (dg (f i)), (f i).m⟩]) (by rfl) (by rw [cellsL_length]; rfl) (by rw [cellsL_one]; exact World.news_of_block (heap_alloc_new w2 _)) (one_cells _) (by omega) (by unfold maxLen; omega) (by omega) (by have := HB2.out.size; simp; omega) _ (by rfl) ?_; intro g0 cap0 w3 hown1 hgrow hat hlt1) | (go_at_call 37; refine (hdeg _).mono ?_; rintro e w2 ⟨rfl, hb2⟩; have HO2 := Hid.mk' (owns_below HO1.out hb2); have HB2 : Hid (Below w.heap.size w w2) := (bel_next HBW.out hb2)) | (go_at_call 36; refine (hsign _).mono ?_; rintro e w' ⟨rfl, hw'⟩; obtain rfl := hw'.symm; clear hw'))
        have HB := Hid.mk' ((HB2.out.alloc HB2.out.size _).grown hgrow (Nat.le_trans HB2.out.size (by simp)) (fun j hj => (HO2.out.lt j hj).1))
        have HP := Hid.mk' hown1
        clear hown1 hgrow hat hlt1 HO2
        go_wp2
        go_roundw
        case rel => exact ⟨i + 1, by omega, by go_num, by rw [turnL, cellsL_append]; exact HP.out, HB.out⟩
        case measure => simp [intOf]; omega
      · obtain rfl : i = n := by omega
        have HOWN := Hid.mk' hown
        have HBL := Hid.mk' hbl
        clear hown hbl
        go_wp2
        go_ret
        exact ⟨_, rfl, HBL.out, HOWN.out⟩
end Go.Proofs.Ytahbekfhoidgjaw
