/-
  Each time and each slope less than 0: the program and the model.
  Turns, as other times and slopes put in.
  The other way round: what a product is turned back into.
-/
import Derived.Test.YtfcmkkagjkkgjaaGba
import Derived.Test.YtfcmkkagjkkgjaaGaz
namespace Go.Proofs.Ytfcmkkagjkkgjaa
open Go.RowKit Go.Maps
set_option linter.unusedVariables false

def dg (t : T) : Int := t.m.x + t.m.y + t.m.d + t.m.e
def stTurn (K : List T) (t : T) : Option (List T) := some (putT (sg t (dg t)) t.m K)
theorem B5.grown {bx b : Nat} {t : T} {u u' : World} (h : B5 bx t u) (hg : u.grownBy u' (some b)) (hne : bx ≠ b) : B5 bx t u' := by
  have hl := h.lt
  have hc : ∀ o, u'.cell? ⟨bx, o, none⟩ = u.cell? ⟨bx, o, none⟩ := fun o => World.cell?_of_block (w := u) (a := ⟨bx, o, none⟩) (hg.block bx hl (fun e => hne (by cases e; rfl)))
  exact ⟨(hc 0).trans h.1, (hc 1).trans h.2.1, (hc 2).trans h.2.2.1, (hc 3).trans h.2.2.2.1, (hc 4).trans h.2.2.2.2⟩
set_option maxRecDepth 100000 in
set_option maxHeartbeats 4000000 in
theorem turnTurns : Turns 44 #[] stTurn (fun _ => True) := by
  intro W b c K t hS hK hKc hl ht _
  have hdb := M.ok_iff.1 ht.1
  have hsr := sg_range t (dg t)
  have hput := putT_facts hK ht.1 hsr.1 hsr.2
  have hbl := hS.lt
  have HS := Hid.mk' hS
  have hdeg : ∀ u : World, Calls Try.prog 46 #[.agg #[.int .i64 t.m.x, .int .i64 t.m.y, .int .i64 t.m.d, .int .i64 t.m.e]] u fun e w' => e = .returned (.int .i64 (dg t)) ∧ Below u.heap.size u w' := fun u => degreeI _ _ _ _ u ht.1
  have hd0 : 0 ≤ dg t ∧ dg t ≤ 60 := by unfold dg; omega
  have hnum : ∀ u : World, Calls Try.prog 39 #[.agg #[.int .i64 t.c, .int .i64 t.m.x, .int .i64 t.m.y, .int .i64 t.m.d, .int .i64 t.m.e], .int .i64 (dg t)] u fun e w' => e = .returned (.int .i64 (sg t (dg t))) ∧ Below u.heap.size u w' := fun u => mapNumberI t _ u (by omega) ht.2.2 hd0.1 (by omega)
  have hbox : B5 W.heap.size t (W.alloc (.cells #[.int .i64 t.c, .int .i64 t.m.x, .int .i64 t.m.y, .int .i64 t.m.d, .int .i64 t.m.e] 39)).drew := B5.box W t
  have hB0 : Below W.heap.size W (W.alloc (.cells #[.int .i64 t.c, .int .i64 t.m.x, .int .i64 t.m.y, .int .i64 t.m.d, .int .i64 t.m.e] 39)).drew := (bel_one W (.cells #[.int .i64 t.c, .int .i64 t.m.x, .int .i64 t.m.y, .int .i64 t.m.d, .int .i64 t.m.e] 39)).drew
  clear hS
  show Calls Try.prog 44 #[.map (some b), .agg #[.int .i64 t.c, .int .i64 t.m.x, .int .i64 t.m.y, .int .i64 t.m.d, .int .i64 t.m.e]] W _
  go_enter Try.func44, Try.ntmps44
  go_wp2_with fail
  go_region_held3 (fun u => u.cell? ⟨W.heap.size, 0, none⟩ = some (.int .i64 t.c) ∧ u.cell? ⟨W.heap.size, 1, none⟩ = some (.int .i64 t.m.x) ∧ u.cell? ⟨W.heap.size, 2, none⟩ = some (.int .i64 t.m.y) ∧ u.cell? ⟨W.heap.size, 3, none⟩ = some (.int .i64 t.m.d) ∧ u.cell? ⟨W.heap.size, 4, none⟩ = some (.int .i64 t.m.e)) (first | with_reducible exact hbox | with_reducible exact B5.below hbox hb1 (B5.lt hbox) | with_reducible exact B5.below (B5.below hbox hb1 (B5.lt hbox)) hb2 (B5.lt (B5.below hbox hb1 (B5.lt hbox))) | with_reducible exact B5.grown (B5.below (B5.below hbox hb1 (B5.lt hbox)) hb2 (B5.lt (B5.below hbox hb1 (B5.lt hbox)))) hg3 (by omega)) (first | (go_at_call 46; refine (hdeg _).mono ?_; rintro e w1 ⟨rfl, hb1⟩) | (go_at_call 39; refine (hnum _).mono ?_; rintro e w2 ⟨rfl, hb2⟩) | (go_at_call 45; refine (sumAddR b 65536 c _ t.m _ ht.1 (HS.out.grown (grown_of_below (bel_next (bel_next hB0 hb1) hb2)) (by simp)) (by unfold maxLen; omega) hsr.1 hsr.2).mono ?_; rintro e w3 ⟨rfl, hs3, hg3⟩))
  have HS3 := Hid.mk' hs3.cap
  have HG3 := Hid.mk' (World.grownBy.trans (⟨(bel_next (bel_next hB0 hb1) hb2).os, (bel_next (bel_next hB0 hb1) hb2).tape, (bel_next (bel_next hB0 hb1) hb2).output, (bel_next (bel_next hB0 hb1) hb2).size, fun k hk _ => (bel_next (bel_next hB0 hb1) hb2).block k hk⟩ : W.grownBy w2 (some b)) hg3)
  clear hs3 hg3 hb1 hb2
  go_wp2
  go_ret
  refine ⟨HG3.out, .inl ⟨_, _, rfl, rfl, HS3.out, hput.1, fun m hmo => ?_⟩⟩
  rw [hput.2]
  unfold updC
  split
  · rw [hKc _ ht.1]
  · exact hKc m hmo
/-- the first i terms, turned. -/
def turnL (f : Nat → T) : Nat → List T
  | 0 => []
  | i + 1 => turnL f i ++ [⟨sg (f i) (dg (f i)), (f i).m⟩]
theorem turnL_len (f : Nat → T) : ∀ i, (turnL f i).length = i
  | 0 => rfl
  | i + 1 => by rw [turnL, List.length_append, turnL_len f i]; rfl
theorem turnL_mem {f : Nat → T} {t : T} : ∀ {i : Nat}, t ∈ turnL f i → ∃ j, j < i ∧ t = ⟨sg (f j) (dg (f j)), (f j).m⟩
  | 0, h => by cases h
  | i + 1, h => by
    rw [turnL] at h
    rcases List.mem_append.1 h with h | h
    · obtain ⟨j, hj, h2⟩ := turnL_mem h
      exact ⟨j, by omega, h2⟩
    · exact ⟨i, by omega, List.mem_singleton.1 h⟩
theorem lf_atT {L : List T} {i : Nat} (h : i < L.length) : lf L i = L[i] := by
  unfold lf
  rw [List.getD_eq_getElem?_getD, List.getElem?_eq_getElem h]; rfl
theorem addT_tailT (L : List T) (t : T) (h : ∀ u ∈ L, 0 < M.ord 1 u.m t.m) : ∀ (r i : Nat), i + r = L.length → addT (lf L) L.length (fun _ => t) 1 i 0 = L.drop i ++ [t]
  | 0, i, hi => by
    rw [addT_lt (by omega) (.inl (by omega)), addT_end (by omega) (by omega), List.drop_eq_nil_of_le (by omega)]; rfl
  | r + 1, i, hi => by
    have hl : i < L.length := by omega
    rw [addT_gt hl (.inr (by rw [lf_atT hl]; exact h _ (List.getElem_mem hl))), addT_tailT L t h r (i + 1) (by omega), List.drop_eq_getElem_cons hl, lf_atT hl]; rfl
theorem put_turnL {f : Nat → T} {n i : Nat} (h : polOk n f = true) (hi : i < n) : putT (sg (f i) (dg (f i))) (f i).m (turnL f i) = turnL f (i + 1) := by
  have hfl := fl_of_ok h
  have hfi := hfl.2 i hi
  have hpos := sg_pos (t := f i) (n := dg (f i)) hfi.2.1 hfi.2.2
  rw [putT, if_neg (by omega), turnL]
  rw [addT_tailT (turnL f i) ⟨sg (f i) (dg (f i)), (f i).m⟩ (fun u hu => ?_) (turnL f i).length 0 (by omega)]
  · rfl
  · obtain ⟨j, hj, rfl⟩ := turnL_mem hu
    exact (ord_pos (hfl.2 j (by omega)).1 hfi.1).2 (hfl.1 j i hj hi)
theorem turnL_each {f : Nat → T} {n : Nat} (h : polOk n f = true) : ∀ i, i ≤ n → eachM stTurn f i = some (turnL f i)
  | 0, _ => rfl
  | i + 1, hi => by
    have hn := (good_ok h).1
    rw [eachM, turnL_each h i (by omega)]
    show lim4 (putT (sg (f i) (dg (f i))) (f i).m (turnL f i)) = _
    rw [put_turnL h (by omega)]
    exact if_pos (by rw [turnL_len]; omega)
def mapTurn (f : Nat → T) (n : Nat) : List T := if polOk n f = true then turnL f n else []
theorem mapTurn_is (f : Nat → T) (n : Nat) : (mapV stTurn f n).1 = mapTurn f n := by
  unfold mapV mapTurn
  split
  · rename_i h
    rw [turnL_each h n (Nat.le_refl _)]
    rfl
  · rfl
theorem mapTurn_len (f : Nat → T) (n : Nat) : (mapTurn f n).length ≤ 400 := by rw [← mapTurn_is]; exact mapV_len _ _ _
set_option maxHeartbeats 1000000 in
theorem mapTurnI (w : World) (a : Option Addr) (n cap : Nat) (f : Nat → T) (ha : Rd w a n cap f) :
    Calls Try.prog 14 #[.slice a n cap] w fun r w' => ∃ a' cap', r = .returned (.slice a' (mapTurn f n).length cap') ∧ Below w.heap.size w w' ∧ Out w.heap.size w' a' cap' (mapTurn f n) := by
  have hc := mapEachV w a n cap f 44 #[] stTurn (fun _ => True) (enters_of Try.func44 (by kernel_rfl) rfl) turnTurns (fun _ _ _ _ _ _ => trivial) (fun _ _ _ => trivial) trivial ha
  rw [mapTurn_is] at hc
  have hlen := mapTurn_len f n
  go_enter Try.func14, Try.ntmps14
  go_wp2_with (go_at_call 37; refine hc.mono ?_; rintro r w1 ⟨v, rfl, hb1, ho1⟩)
  go_ret
  obtain ⟨a', cap', rfl, hout⟩ := out_of_owns ho1 (by omega)
  exact ⟨a', cap', rfl, hb1, hout⟩
abbrev R5 (pb o : Nat) (t : T) (u : World) : Prop := u.cell? ⟨pb, o, none⟩ = some (.int .i64 t.c) ∧ u.cell? ⟨pb, o + 1, none⟩ = some (.int .i64 t.m.x) ∧ u.cell? ⟨pb, o + 2, none⟩ = some (.int .i64 t.m.y) ∧ u.cell? ⟨pb, o + 3, none⟩ = some (.int .i64 t.m.d) ∧ u.cell? ⟨pb, o + 4, none⟩ = some (.int .i64 t.m.e)
theorem R5.same {pb o : Nat} {t : T} {u u' : World} (h : R5 pb o t u) (hb : u'.heap[pb]? = u.heap[pb]?) : R5 pb o t u' :=
  have hc : ∀ o, u'.cell? ⟨pb, o, none⟩ = u.cell? ⟨pb, o, none⟩ := fun o => World.cell?_of_block (w := u) (a := ⟨pb, o, none⟩) hb
  ⟨(hc _).trans h.1, (hc _).trans h.2.1, (hc _).trans h.2.2.1, (hc _).trans h.2.2.2.1, (hc _).trans h.2.2.2.2⟩
theorem R5.below {pb o : Nat} {t : T} {u u' : World} (h : R5 pb o t u) (hb : Below u.heap.size u u') (h2 : pb < u.heap.size) : R5 pb o t u' := h.same (hb.block pb h2)
theorem R5.lt {pb o : Nat} {t : T} {u : World} (h : R5 pb o t u) : pb < u.heap.size := World.block_lt_of_cell? u ⟨pb, o, none⟩ h.1
theorem R5.alloc {pb o : Nat} {t : T} {u : World} (h : R5 pb o t u) (x : Obj) : R5 pb o t (u.alloc x) := h.below (bel_one u x) h.lt
theorem R5.grown {pb o : Nat} {t : T} {u u' : World} {row : Option Nat} (h : R5 pb o t u) (hg : u.grownBy u' row) (hne : some pb ≠ row) : R5 pb o t u' := h.same (hg.block pb h.lt hne)
set_option maxRecDepth 100000 in
set_option maxHeartbeats 16000000 in
theorem mapTurnS (w : World) (a : Option Addr) (n cap : Nat) (f : Nat → T) (h : Rd w a n cap f) :
    Calls Try.prog 28 #[.slice a n cap] w fun r w' => ∃ v, r = .returned v ∧ Below w.heap.size w w' ∧ w'.ownsRow w.heap.size 39 5 v (mapTurn f n).length (cellsL (mapTurn f n)) := by
  obtain ⟨i0, hi0, hz0, hz1, hz2⟩ := info_parts infoT
  have HA := Hid.mk' h
  have hn : (n : Int) ≤ 140737488351232 := by have := h.2.1; omega
  have hO0 := owns_none w w.heap.size (Nat.le_refl _)
  have hB0 := bel_one w (.cells #[] 39)
  clear h
  cases hpa : polOk n f
  · have e1 : mapTurn f n = [] := by simp [mapTurn, hpa]
    rw [e1]
    go_enter Try.func28, Try.ntmps28
    go_wp2
    generalize w.alloc (.cells #[] 39) = w0 at *
    go_loopw [3, 4] (fun v ii wr => ii = .int .i64 0 ∧ wr.ownsRow w.heap.size 39 5 v 0 (cellsL []) ∧ Below w.heap.size w wr) (fun _ _ _ => 0)
    case atStart => exact ⟨rfl, hO0, hB0⟩
    case round =>
      obtain ⟨rfl, hown, hbl⟩ := hrel
      by_cases h0 : n = 0
      · subst h0
        go_wp2
        go_ret
        exact ⟨_, rfl, hbl, hown⟩
      · have hpos : (0 : Int) < (n : Int) := by omega
        have HOWN := Hid.mk' hown
        have HBL := Hid.mk' hbl
        clear hown hbl
        go_wp2_with (go_at_call 23; refine (polOkS _ _ _ _ f (HA.out.below HBL.out)).mono ?_; rw [hpa]; rintro r w1 ⟨rfl, hb1⟩; have HB1 := Hid.mk' hb1; clear hb1)
        go_ret
        exact ⟨_, rfl, bel_next HBL.out HB1.out, owns_below HOWN.out HB1.out⟩
  · have e1 : mapTurn f n = turnL f n := by simp [mapTurn, hpa]
    rw [e1, turnL_len]
    have l1 := (good_ok hpa).1
    have HPA := Hid.mk' hpa
    go_enter Try.func28, Try.ntmps28
    go_wp2
    generalize w.alloc (.cells #[] 39) = w0 at *
    go_loopw [3, 4] (fun v ii wr => ∃ i : Nat, i ≤ n ∧ ii = .int .i64 (i : Int) ∧ wr.ownsRow w.heap.size 39 5 v i (cellsL (turnL f i)) ∧ Below w.heap.size w wr) (fun _ ii _ => n - (intOf ii).toNat)
    case atStart => exact ⟨0, Nat.zero_le _, rfl, hO0, hB0⟩
    case round =>
      obtain ⟨i, hi, rfl, hown, hbl⟩ := hrel
      by_cases hlt : i < n
      · have hil : (i : Int) < (n : Int) := by omega
        have hfi := (fl_of_ok HPA.out).2 i hlt
        have HOWN := Hid.mk' hown
        have HBL := Hid.mk' hbl
        clear hown hbl
        have hri := HA.out.below HBL.out
        rcases hri.2.2 with h0 | ⟨pb, off, hpe, hblt, hcl⟩
        · omega
        subst hpe
        clear hcl hri
        have hpw : pb < w.heap.size := by
          rcases HA.out.2.2 with h0 | ⟨pb', off', hpe', hblt', _⟩
          · omega
          · cases hpe'; exact hblt'
        have hdb := M.ok_iff.1 hfi.1
        have hd0 : 0 ≤ dg (f i) ∧ dg (f i) ≤ 60 := by unfold dg; omega
        have hsr := sg_range (f i) (dg (f i))
        have hsg := sgn_range (dg (f i))
        have hmb := mul_bd (show 0 ≤ (f i).c by omega) hfi.2.2 hsg.1 hsg.2
        have hwm : IntKind.i64.wrap ((f i).c * sgn (dg (f i))) = (f i).c * sgn (dg (f i)) := by rw [IntKind.wrap_i64]; omega
        have htm : ((f i).c * sgn (dg (f i))).tmod 101 = sg (f i) (dg (f i)) := Int.tmod_eq_emod_of_nonneg hmb.1
        have hsign : ∀ u : World, Calls Try.prog 42 #[.int .i64 (dg (f i))] u fun e w' => e = .returned (.int .i64 (sgn (dg (f i)))) ∧ w' = u := fun u => l5SignS _ u hd0.1 (by omega)
        have hdeg : ∀ u : World, Calls Try.prog 61 #[.agg #[.int .i64 (f i).m.x, .int .i64 (f i).m.y, .int .i64 (f i).m.d, .int .i64 (f i).m.e]] u fun e w' => e = .returned (.int .i64 (dg (f i))) ∧ Below u.heap.size u w' := fun u => by
          have := monDegS (f i).m.x (f i).m.y (f i).m.d (f i).m.e u
          have e2 : M.deg ⟨(f i).m.x, (f i).m.y, (f i).m.d, (f i).m.e⟩ = dg (f i) := if_pos hfi.1
          rwa [e2] at this
        clear hsg hmb hdb
        go_wp2_with (go_at_call 23; refine (polOkS _ _ _ _ f (HA.out.below HBL.out)).mono ?_; rw [hpa]; rintro r w1 ⟨rfl, hb1⟩; have HB1 := Hid.mk' hb1; have HB1w := Hid.mk' (bel_next HBL.out hb1); have hr1 := HA.out.below HB1w.out; have hc1 := (hr1.2.2.resolve_left (by omega)); obtain ⟨pb', off', hpe', hblt', hcl'⟩ := hc1; cases hpe'; obtain ⟨g0, g1, g2, g3, g4⟩ := hcl' i hlt; clear hb1 hr1 hcl')
        have hS0 : R5 pb (off + i * 5) (f i) w1.drew := ⟨g0, g1, g2, g3, g4⟩
        have HO1 := Hid.mk' (owns_below (owns_below HOWN.out HB1.out) (Below.refl _ _).drew)
        have HBW := Hid.mk' HB1w.out.drew
        clear g0 g1 g2 g3 g4
        go_region_held3 (fun u => u.cell? ⟨pb, off + i * 5, none⟩ = some (.int .i64 (f i).c) ∧ u.cell? ⟨pb, off + i * 5 + 1, none⟩ = some (.int .i64 (f i).m.x) ∧ u.cell? ⟨pb, off + i * 5 + 2, none⟩ = some (.int .i64 (f i).m.y) ∧ u.cell? ⟨pb, off + i * 5 + 3, none⟩ = some (.int .i64 (f i).m.d) ∧ u.cell? ⟨pb, off + i * 5 + 4, none⟩ = some (.int .i64 (f i).m.e)) (first | with_reducible exact hS0 | with_reducible exact R5.below hS0 hb2 (R5.lt hS0) | with_reducible exact R5.alloc (R5.below hS0 hb2 (R5.lt hS0)) _ | with_reducible exact R5.grown (R5.alloc (R5.below hS0 hb2 (R5.lt hS0)) _) hgrow (fun hh => absurd (HO2.out.lt pb hh.symm).1 (by omega))) (first | (refine step_append_lies _ (by rfl) (.tmp 16) (.tmp 37) 23 (by rfl) w.heap.size 39 i0 _ 5 40 Try.underlying23 hi0 hz0 hz1 hz2 rfl (by omega) _ i (cellsL (turnL f i)) (by rfl) (HO2.out.alloc _) ⟨w2.heap.size, 0, none⟩ 1 1 (cellsL [⟨sg (f i) (dg (f i)), (f i).m⟩]) (by rfl) (by rw [cellsL_length]; rfl) (by rw [cellsL_one]; exact World.news_of_block (heap_alloc_new w2 _)) (one_cells _) (by omega) (by unfold maxLen; omega) (by omega) (by have := HB2.out.size; simp; omega) _ (by rfl) ?_; intro g0 cap0 w3 hown1 hgrow hat hlt1) | (go_at_call 61; refine (hdeg _).mono ?_; rintro e w2 ⟨rfl, hb2⟩; have HO2 := Hid.mk' (owns_below HO1.out hb2); have HB2 : Hid (Below w.heap.size w w2) := (bel_next HBW.out hb2)) | (go_at_call 42; refine (hsign _).mono ?_; rintro e w' ⟨rfl, hw'⟩; obtain rfl := hw'.symm; clear hw'))
        have HB := Hid.mk' ((HB2.out.alloc HB2.out.size _).grown hgrow (Nat.le_trans HB2.out.size (by simp)) (fun j hj => (HO2.out.lt j hj).1))
        have HP := Hid.mk' hown1
        clear hown1 hgrow hat hlt1 HO2
        go_wp2
        go_roundw
        case rel => exact ⟨i + 1, by omega, by go_num, by rw [turnL, cellsL_append]; exact HP.out, HB.out⟩
        case measure => simp [intOf]; omega
      · obtain rfl : i = n := by omega
        have HOWN := Hid.mk' hown
        have HBL := Hid.mk' hbl
        clear hown hbl
        go_wp2
        go_ret
        exact ⟨_, rfl, HBL.out, HOWN.out⟩
end Go.Proofs.Ytfcmkkagjkkgjaa
namespace Go.Proofs.Ytfcmkkagjkkgjaa
open Go.RowKit
set_option linter.unusedVariables false

/-! less than 0 -/
def Lq.neg (A : Lq) : Lq := Lq.sc 100 A
theorem Lq.neg_neg (A : Lq) : Lq.neg (Lq.neg A) = A := by
  unfold Lq.neg
  rw [Lq.sc_sc, show (100 : Fq) * 100 = 1 from by decide, Lq.sc_one]
def sq1 : Nat → Fq
  | 0 => 1
  | n + 1 => sq1 n * 100
theorem sq1_add (n : Nat) : ∀ m, sq1 (n + m) = sq1 n * sq1 m
  | 0 => by show sq1 n = sq1 n * 1; grind
  | m + 1 => by show sq1 (n + m) * 100 = sq1 n * (sq1 m * 100); rw [sq1_add n m]; grind
theorem sq1_sq : ∀ n, sq1 n * sq1 n = 1
  | 0 => by decide
  | n + 1 => by
    show sq1 n * 100 * (sq1 n * 100) = 1
    have := sq1_sq n
    grind
theorem neg_pow (A : Lq) : ∀ n, Lq.pow (Lq.neg A) n = Lq.sc (sq1 n) (Lq.pow A n)
  | 0 => (Lq.sc_one _).symm
  | n + 1 => by
    rw [Lq.pow, neg_pow A n, Lq.pow]
    unfold Lq.neg
    rw [Lq.mul_sc, Lq.sc_mul, Lq.sc_sc]
    congr 1
    show 100 * sq1 n = sq1 n * 100
    grind
theorem sgn_zz : ∀ n : Nat, zz (sgn (n : Int)) = sq1 n
  | 0 => rfl
  | n + 1 => by
    have h := sgn_zz n
    show zz (sgn ((n + 1 : Nat) : Int)) = sq1 n * 100
    rw [← h]
    unfold sgn
    split <;> split <;> first | omega | decide
theorem sgn_at {n : Int} (h : 0 ≤ n) : zz (sgn n) = sq1 n.toNat := by
  rw [← sgn_zz, Int.toNat_of_nonneg h]
theorem neg_com {A B : Lq} (h : Lq.Com A B) : Lq.Com A (Lq.neg B) := by
  unfold Lq.Com Lq.neg
  rw [Lq.mul_sc, Lq.sc_mul, h]
theorem neg_wey {x d : Lq} (h : Wey x d) : Wey d (Lq.neg x) := by
  unfold Wey Lq.neg
  rw [Lq.sc_mul, Lq.mul_sc, h]
  refine Lq.ext fun u n k => ?_
  simp only [Lq.sc_sum, sum_f, sc_f]
  grind
theorem neg_wey2 {x d : Lq} (h : Wey x d) : Wey (Lq.neg x) (Lq.neg d) := by
  have := neg_wey (neg_wey h)
  exact this
def swapG (g : Gen) : Gen := ⟨g.y, g.x, g.e, g.d, g.wy, g.wx, g.xy.symm, g.dy.symm, g.xe.symm, g.de.symm⟩
def roundG (g : Gen) : Gen := ⟨g.d, g.e, Lq.neg g.x, Lq.neg g.y, neg_wey g.wx, neg_wey g.wy, g.de, neg_com g.dy, (neg_com g.xe.symm).symm, neg_com (neg_com g.xy.symm).symm⟩
def turnG (g : Gen) : Gen := ⟨Lq.neg g.x, Lq.neg g.y, Lq.neg g.d, Lq.neg g.e, neg_wey2 g.wx, neg_wey2 g.wy, neg_com (neg_com g.xy.symm).symm, neg_com (neg_com g.xe.symm).symm, neg_com (neg_com g.dy.symm).symm, neg_com (neg_com g.de.symm).symm⟩
theorem round_twice (g : Gen) : roundG (roundG g) = turnG g := rfl
theorem turn_twice (g : Gen) : turnG (turnG g) = g := by
  cases g
  simp only [turnG, Lq.neg_neg]
theorem swap_twice (g : Gen) : swapG (swapG g) = g := rfl
theorem swap_round (g : Gen) : swapG (roundG g) = roundG (swapG g) := rfl
theorem turn_round (g : Gen) : turnG (roundG g) = roundG (turnG g) := rfl
/-! swapped -/
theorem mo_swap (g : Gen) (m : M) : mo g (swapM m) = mo (swapG g) m := by
  unfold mo swapM swapG
  simp only
  rw [g.xy.pows m.y.toNat m.x.toNat, g.de.pows m.e.toNat m.d.toNat]
theorem swap_adds (g : Gen) : Adds (mo g) (mo (swapG g)) stSwap := fun K t K' hK ht h => by
  have h2 : K' = putT t.c (swapM t.m) K := by unfold stSwap at h; exact (Option.some.inj h).symm
  rw [h2]
  have hm := swapM_ok ht.1
  exact ⟨(putT_facts hK hm (by omega) ht.2.2).1, by rw [Rg_put _ hK hm (by omega) ht.2.2, mo_swap]⟩
/-! turned -/
theorem mo_turn (g : Gen) {m : M} (h : m.ok = true) : mo (turnG g) m = Lq.sc (sq1 (m.x + m.y + m.d + m.e).toNat) (mo g m) := by
  obtain ⟨x1, x2, y1, y2, d1, d2, e1, e2⟩ := M.ok_iff.1 h
  unfold mo turnG
  simp only
  rw [neg_pow, neg_pow, neg_pow, neg_pow]
  simp only [Lq.mul_sc, Lq.sc_mul, Lq.sc_sc]
  congr 1
  rw [show (m.x + m.y + m.d + m.e).toNat = m.x.toNat + m.y.toNat + m.d.toNat + m.e.toNat by omega, sq1_add, sq1_add, sq1_add]
  grind
theorem turn_adds (g : Gen) : Adds (mo g) (mo (turnG g)) stTurn := fun K t K' hK ht h => by
  have h2 : K' = putT (sg t (dg t)) t.m K := by unfold stTurn at h; exact (Option.some.inj h).symm
  rw [h2]
  have hr := sg_range t (dg t)
  obtain ⟨x1, x2, y1, y2, d1, d2, e1, e2⟩ := M.ok_iff.1 ht.1
  refine ⟨(putT_facts hK ht.1 hr.1 hr.2).1, ?_⟩
  rw [Rg_put _ hK ht.1 hr.1 hr.2, mo_turn g ht.1, Lq.sc_sc]
  congr 2
  unfold sg dg
  rw [zz_mod, zz_mul, sgn_at (by omega)]
/-! turned round -/
theorem step_Rg (g : Gen) {K K' : List T} {a b : T} (hK : Falls K) (ha : a.m.ok = true ∧ 0 ≤ a.c ∧ a.c ≤ 100) (hb : b.m.ok = true ∧ 0 ≤ b.c ∧ b.c ≤ 100) (h : stepM K a b = some K') : Falls K' ∧ Rg (mo g) K' = Lq.sum (Rg (mo g) K) (Lq.sc (zz a.c * zz b.c) (Lq.mul (mo g a.m) (mo g b.m))) := by
  unfold stepM at h
  split at h
  · rename_i hok
    cases h
    have tw : Two a b (a.m.sum b.m) := ⟨ha.1, hb.1, hok.1, rfl, rfl, rfl, rfl, ha.2, hb.2⟩
    have hp := pairL_facts tw
    refine ⟨(addL_facts hK hp.1).1, ?_⟩
    rw [Rg_add _ hK hp.1, ← Rg_mo g (pairL a b), Rp_pair g tw]
  · cases h
theorem round_adds (g : Gen) : Adds (mo g) (mo (roundG g)) stMapRound := fun K t K' hK ht h => by
  obtain ⟨x1, x2, y1, y2, d1, d2, e1, e2⟩ := M.ok_iff.1 ht.1
  have hr := sg_range t (t.m.d + t.m.e)
  have hA : (rndA t).m.ok = true ∧ 0 ≤ (rndA t).c ∧ (rndA t).c ≤ 100 := ⟨M.ok_iff.2 ⟨by show (0 : Int) ≤ 0; omega, by show (0 : Int) ≤ 15; omega, by show (0 : Int) ≤ 0; omega, by show (0 : Int) ≤ 15; omega, x1, x2, y1, y2⟩, hr.1, hr.2⟩
  have hB : (rndB t).m.ok = true ∧ 0 ≤ (rndB t).c ∧ (rndB t).c ≤ 100 := ⟨M.ok_iff.2 ⟨d1, d2, e1, e2, by show (0 : Int) ≤ 0; omega, by show (0 : Int) ≤ 15; omega, by show (0 : Int) ≤ 0; omega, by show (0 : Int) ≤ 15; omega⟩, by show (0 : Int) ≤ 1; omega, by show (1 : Int) ≤ 100; omega⟩
  have h1 := step_Rg g hK hA hB h
  refine ⟨h1.1, h1.2.trans ?_⟩
  congr 1
  show Lq.sc (zz (sg t (t.m.d + t.m.e)) * zz 1) (Lq.mul (mo g ⟨0, 0, t.m.x, t.m.y⟩) (mo g ⟨t.m.d, t.m.e, 0, 0⟩)) = Lq.sc (zz t.c) (mo (roundG g) t.m)
  unfold mo roundG
  simp only
  rw [neg_pow, neg_pow]
  simp only [Lq.mul_sc, Lq.sc_mul, Lq.sc_sc]
  unfold sg
  rw [zz_mod, zz_mul, sgn_at (by omega), show (t.m.d + t.m.e).toNat = t.m.d.toNat + t.m.e.toNat by omega, sq1_add, zz_one]
  congr 1
  grind
/-! the laws -/
def rdV (L : List T) : List T × Bool := mapRound (lf L) L.length
def swV (L : List T) : List T := mapSwap (lf L) L.length
def tuV (L : List T) : List T := mapTurn (lf L) L.length
theorem rd_facts {L X : List T} (h : rdV L = (X, true)) : okL L = true ∧ okL X = true ∧ ∀ g, Rp g X = Rp (roundG g) L := by
  have h1 := fun g => map_Rg (round_adds g) h
  exact ⟨(h1 stdG).1, (h1 stdG).2.1, fun g => (h1 g).2.2⟩
theorem rdV_if (L : List T) : rdV L = ([], false) ∨ ∃ X, rdV L = (X, true) := mapV_if _ L
theorem sw_each {L : List T} (h : okL L = true) : mapV stSwap (lf L) L.length = (swV L, true) := by
  replace h : polOk L.length (lf L) = true := h
  unfold mapV swV mapSwap
  rw [if_pos h, if_pos h, swapL_each _ _ (good_ok h).1]; rfl
theorem tu_each {L : List T} (h : okL L = true) : mapV stTurn (lf L) L.length = (tuV L, true) := by
  replace h : polOk L.length (lf L) = true := h
  unfold mapV tuV mapTurn
  rw [if_pos h, if_pos h, turnL_each h _ (Nat.le_refl _)]; rfl
theorem sw_facts {L : List T} (h : okL L = true) : okL (swV L) = true ∧ ∀ g, Rp g (swV L) = Rp (swapG g) L := by
  have h1 := fun g => map_Rg (swap_adds g) (sw_each h)
  exact ⟨(h1 stdG).2.1, fun g => (h1 g).2.2⟩
theorem tu_facts {L : List T} (h : okL L = true) : okL (tuV L) = true ∧ ∀ g, Rp g (tuV L) = Rp (turnG g) L := by
  have h1 := fun g => map_Rg (turn_adds g) (tu_each h)
  exact ⟨(h1 stdG).2.1, fun g => (h1 g).2.2⟩
theorem rd_twice {A X Y : List T} (h1 : rdV A = (X, true)) (h2 : rdV X = (Y, true)) : Y = tuV A := by
  obtain ⟨oA, oX, e1⟩ := rd_facts h1
  obtain ⟨_, oY, e2⟩ := rd_facts h2
  have ht := tu_facts oA
  exact ok_eq oY ht.1 (by rw [e2, e1, round_twice, ht.2])
theorem rd_mul {A B X Y AB U V : List T} (h1 : rdV A = (X, true)) (h2 : rdV B = (Y, true)) (h3 : wmV A B = (AB, true)) (h4 : rdV AB = (U, true)) (h5 : wmV X Y = (V, true)) : U = V := by
  exact ok_eq (rd_facts h4).2.1 (wm_ok h5) (by rw [(rd_facts h4).2.2, Rp_mul _ h3, Rp_mul _ h5, (rd_facts h1).2.2, (rd_facts h2).2.2])
theorem sw_sw {A : List T} (h : okL A = true) : swV (swV A) = A := by
  have h1 := sw_facts h
  have h2 := sw_facts h1.1
  exact ok_eq h2.1 h (by rw [h2.2, h1.2, swap_twice])
theorem tu_tu {A : List T} (h : okL A = true) : tuV (tuV A) = A := by
  have h1 := tu_facts h
  have h2 := tu_facts h1.1
  exact ok_eq h2.1 h (by rw [h2.2, h1.2, turn_twice])
theorem sw_mul {A B AB V : List T} (h3 : wmV A B = (AB, true)) (h5 : wmV (swV A) (swV B) = (V, true)) : swV AB = V := by
  obtain ⟨oA, oB⟩ := wm_args h3
  have h4 := sw_facts (wm_ok h3)
  exact ok_eq h4.1 (wm_ok h5) (by rw [h4.2, Rp_mul _ h3, Rp_mul _ h5, (sw_facts oA).2, (sw_facts oB).2])
theorem tu_mul {A B AB V : List T} (h3 : wmV A B = (AB, true)) (h5 : wmV (tuV A) (tuV B) = (V, true)) : tuV AB = V := by
  obtain ⟨oA, oB⟩ := wm_args h3
  have h4 := tu_facts (wm_ok h3)
  exact ok_eq h4.1 (wm_ok h5) (by rw [h4.2, Rp_mul _ h3, Rp_mul _ h5, (tu_facts oA).2, (tu_facts oB).2])
theorem sw_rd {A X Y : List T} (oA : okL A = true) (h1 : rdV A = (X, true)) (h2 : rdV (swV A) = (Y, true)) : swV X = Y := by
  have h4 := sw_facts (rd_facts h1).2.1
  exact ok_eq h4.1 (rd_facts h2).2.1 (by rw [h4.2, (rd_facts h1).2.2, (rd_facts h2).2.2, (sw_facts oA).2, swap_round])
theorem tu_rd {A X Y : List T} (oA : okL A = true) (h1 : rdV A = (X, true)) (h2 : rdV (tuV A) = (Y, true)) : tuV X = Y := by
  have h4 := tu_facts (rd_facts h1).2.1
  exact ok_eq h4.1 (rd_facts h2).2.1 (by rw [h4.2, (rd_facts h1).2.2, (rd_facts h2).2.2, (tu_facts oA).2, turn_round])
end Go.Proofs.Ytfcmkkagjkkgjaa
namespace Go.Proofs.Ytfcmkkagjkkgjaa
open Go.RowKit
set_option linter.unusedVariables false

theorem neg_wey3 {x d : Lq} (h : Wey x d) : Wey (Lq.neg d) x := by
  unfold Wey Lq.neg
  rw [Lq.sc_mul, Lq.mul_sc, h]
  refine Lq.ext fun u n k => ?_
  simp only [Lq.sc_sum, sum_f, sc_f]
  grind
def backG (g : Gen) : Gen := ⟨Lq.neg g.d, Lq.neg g.e, g.x, g.y, neg_wey3 g.wx, neg_wey3 g.wy, neg_com (neg_com g.de.symm).symm, (neg_com g.dy.symm).symm, neg_com g.xe, g.xy⟩
def flipM (m : M) : M := ⟨m.d, m.e, m.x, m.y⟩
theorem flip_ok {m : M} (h : m.ok = true) : (flipM m).ok = true := by
  obtain ⟨x1, x2, y1, y2, d1, d2, e1, e2⟩ := M.ok_iff.1 h
  exact M.ok_iff.2 ⟨d1, d2, e1, e2, x1, x2, y1, y2⟩
/-- a monomial, the other way round. -/
def bk (g : Gen) (m : M) : Lq := mo (backG g) (flipM m)
theorem wN_swap : ∀ b c i : Fin 16, wN b.val c.val i.val = wN c.val b.val i.val := by decide +kernel
theorem wN_sw {b c i : Nat} (hb : b < 16) (hc : c < 16) (hi : i < 16) : wN b c i = wN c b i := wN_swap ⟨b, hb⟩ ⟨c, hc⟩ ⟨i, hi⟩
def flT (t : T) : T := ⟨t.c, flipM t.m⟩
theorem bk_mul (g : Gen) (a b : T) (ha : a.m.ok = true) (hb : b.m.ok = true) : Lq.mul (bk g b.m) (bk g a.m) = Lq.sumN (fun i => Lq.sumN (fun k => Lq.sc (nf (wN a.m.d.toNat b.m.x.toNat i) * nf (wN a.m.e.toNat b.m.y.toNat k)) (bk g (termN a b i k).m)) (limY a b + 1)) (limX a b + 1) := by
  obtain ⟨ax0, ax1, ay0, ay1, ad0, ad1, ae0, ae1⟩ := M.ok_iff.1 ha
  obtain ⟨bx0, bx1, by0, by1, bd0, bd1, be0, be1⟩ := M.ok_iff.1 hb
  have h := mo_mul (backG g) (flT b) (flT a) (flip_ok hb) (flip_ok ha)
  have lx : limX (flT b) (flT a) = limX a b := by show (min b.m.x a.m.d).toNat = (min a.m.d b.m.x).toNat; omega
  have ly : limY (flT b) (flT a) = limY a b := by show (min b.m.y a.m.e).toNat = (min a.m.e b.m.y).toNat; omega
  have mx : limX a b = min a.m.d.toNat b.m.x.toNat := by unfold limX; omega
  have my : limY a b = min a.m.e.toNat b.m.y.toNat := by unfold limY; omega
  rw [lx, ly] at h
  refine h.trans ?_
  refine Lq.sumN_congr (fun i hi => ?_)
  refine Lq.sumN_congr (fun k hk => ?_)
  show Lq.sc (nf (wN b.m.x.toNat a.m.d.toNat i) * nf (wN b.m.y.toNat a.m.e.toNat k)) (mo (backG g) ⟨b.m.d + a.m.d - (i : Int), b.m.e + a.m.e - (k : Int), b.m.x + a.m.x - (i : Int), b.m.y + a.m.y - (k : Int)⟩) = Lq.sc _ (mo (backG g) ⟨a.m.d + b.m.d - (i : Int), a.m.e + b.m.e - (k : Int), a.m.x + b.m.x - (i : Int), a.m.y + b.m.y - (k : Int)⟩)
  rw [wN_sw (b := b.m.x.toNat) (c := a.m.d.toNat) (by omega) (by omega) (by omega), wN_sw (b := b.m.y.toNat) (c := a.m.e.toNat) (by omega) (by omega) (by omega), Int.add_comm b.m.d, Int.add_comm b.m.e, Int.add_comm b.m.x, Int.add_comm b.m.y]
theorem Rb_pair (g : Gen) {a b : T} {m : M} (h : Two a b m) : Rg (bk g) (pairL a b) = Lq.sc (zz a.c * zz b.c) (Lq.mul (bk g b.m) (bk g a.m)) := by
  obtain ⟨ax0, ax1, ay0, ay1, ad0, ad1, ae0, ae1⟩ := M.ok_iff.1 h.ok1
  obtain ⟨bx0, bx1, by0, by1, bd0, bd1, be0, be1⟩ := M.ok_iff.1 h.ok2
  rw [bk_mul g a b h.ok1 h.ok2, Lq.sc_sumN]
  refine Lq.ext fun u p q => ?_
  show lin (fun m => (bk g m).f u p q) (putAll (emitN a b (limX a b + 1)) []) = _
  rw [lin_putAll _ _ (emit_tok h) falls_nil, lin_nil, sumN_f]
  unfold lin emitN rowN
  rw [su_flat]
  have z : ∀ x : Fq, 0 + x = x := by intro x; grind
  rw [z]
  refine su_congr (fun i hi => ?_)
  rw [List.mem_range] at hi
  rw [su_map, Lq.sc_sumN, sumN_f]
  refine su_congr (fun k hk => ?_)
  rw [List.mem_range] at hk
  have hx : limX a b = min a.m.d.toNat b.m.x.toNat := by unfold limX; omega
  have hy : limY a b = min a.m.e.toNat b.m.y.toNat := by unfold limY; omega
  show zz (termN a b i k).c * _ = zz a.c * zz b.c * (nf _ * nf _ * _)
  have hc : zz (termN a b i k).c = zz a.c * zz b.c * nf (wN a.m.d.toNat b.m.x.toNat i) * nf (wN a.m.e.toNat b.m.y.toNat k) := by
    show zz (a.c * b.c % 101 * wy a.m.d b.m.x i % 101 * wy a.m.e b.m.y k % 101) = _
    rw [zz_mod, zz_mul, zz_mod, zz_mul, zz_mod, zz_mul, zz_wy ad0 ad1 bx0 bx1 (by omega) (by omega), zz_wy ae0 ae1 by0 by1 (by omega) (by omega)]
  rw [hc]
  grind
theorem rowM_Rb (g : Gen) {K : List T} {a : T} {f : Nat → T} {lb : Nat} (hK : Falls K) (ha : a.m.ok = true ∧ 0 ≤ a.c ∧ a.c ≤ 100) (hg : Good f lb) : ∀ k K', k ≤ lb → rowM K a f k = some K' → Rg (bk g) K' = Lq.sum (Rg (bk g) K) (Lq.mul (Rgn (bk g) f k) (Lq.sc (zz a.c) (bk g a.m)))
  | 0, K', _, h => by cases h; unfold Rgn; rw [Lq.sumN, Lq.nil_mul, Lq.sum_nil]
  | k + 1, K', hk, h => by
    rw [rowM] at h
    cases hr : rowM K a f k with
    | none => rw [hr] at h; cases h
    | some K1 =>
      rw [hr] at h
      change stepM K1 a (f k) = some K' at h
      have h1 := rowM_Rb g hK ha hg k K1 (by omega) hr
      have hf1 := rowM_falls2 hK ha hg k K1 (by omega) hr
      unfold stepM at h
      split at h
      · rename_i hok
        cases h
        have h2 := hg k (by omega)
        have tw : Two a (f k) (a.m.sum (f k).m) := ⟨ha.1, h2.1, hok.1, rfl, rfl, rfl, rfl, ha.2, h2.2⟩
        rw [Rg_add _ hf1 (pairL_facts tw).1, h1, Rb_pair g tw]
        unfold Rgn
        rw [Lq.sumN, Lq.sum_mul, Lq.sum_assoc]
        congr 2
        rw [Lq.mul_sc, Lq.sc_mul, Lq.sc_sc]
      · cases h
theorem mulM_Rb (g : Gen) {f f' : Nat → T} {la lb : Nat} (hf : Good f la) (hg : Good f' lb) : ∀ i K, i ≤ la → mulM f f' lb i = some K → Rg (bk g) K = Lq.mul (Rgn (bk g) f' lb) (Rgn (bk g) f i)
  | 0, K, _, h => by cases h; unfold Rgn; rw [Lq.sumN.eq_1, Lq.mul_nil]; rfl
  | i + 1, K, hi, h => by
    rw [mulM] at h
    cases hr : mulM f f' lb i with
    | none => rw [hr] at h; cases h
    | some K1 =>
      rw [hr] at h
      have h1 := mulM_Rb g hf hg i K1 (by omega) hr
      rw [rowM_Rb g (mulM_falls2 hf hg i K1 (by omega) hr) (hf i (by omega)) hg lb K (Nat.le_refl _) h, h1]
      unfold Rgn
      rw [Lq.sumN.eq_2 _ i, Lq.mul_sum]
theorem Rb_mul (g : Gen) {A B P : List T} (h : wmV A B = (P, true)) : Rg (bk g) P = Lq.mul (Rg (bk g) B) (Rg (bk g) A) := by
  unfold wmV wylMul at h
  split at h
  · rename_i hok
    obtain ⟨l1, g1⟩ := good_ok hok.1
    obtain ⟨l2, g2⟩ := good_ok hok.2
    cases hm : mulM (lf A) (lf B) B.length A.length with
    | none => rw [hm] at h; simp [mulO] at h
    | some K =>
      rw [hm] at h
      have : K = P := by simpa [mulO] using h
      rw [← this, mulM_Rb g g1 g2 _ K (Nat.le_refl _) hm, ← Rgn_list, ← Rgn_list]
  · simp at h
theorem bk_is (g : Gen) (m : M) : bk g m = Lq.sc (sq1 m.d.toNat * sq1 m.e.toNat) (Lq.mul (Lq.mul (Lq.pow g.d m.d.toNat) (Lq.pow g.e m.e.toNat)) (Lq.mul (Lq.pow g.x m.x.toNat) (Lq.pow g.y m.y.toNat))) := by
  unfold bk mo backG flipM
  simp only
  rw [neg_pow, neg_pow]
  simp only [Lq.mul_sc, Lq.sc_mul, Lq.sc_sc]
  congr 1
  grind
theorem bck_args {t : T} (ht : t.m.ok = true ∧ 1 ≤ t.c ∧ t.c ≤ 100) : ((bckA t).m.ok = true ∧ 0 ≤ (bckA t).c ∧ (bckA t).c ≤ 100) ∧ (bckB t).m.ok = true ∧ 0 ≤ (bckB t).c ∧ (bckB t).c ≤ 100 := by
  obtain ⟨x1, x2, y1, y2, d1, d2, e1, e2⟩ := M.ok_iff.1 ht.1
  have hr := sg_range t (t.m.d + t.m.e)
  exact ⟨⟨M.ok_iff.2 ⟨by show (0 : Int) ≤ 0; omega, by show (0 : Int) ≤ 15; omega, by show (0 : Int) ≤ 0; omega, by show (0 : Int) ≤ 15; omega, d1, d2, e1, e2⟩, hr.1, hr.2⟩, M.ok_iff.2 ⟨x1, x2, y1, y2, by show (0 : Int) ≤ 0; omega, by show (0 : Int) ≤ 15; omega, by show (0 : Int) ≤ 0; omega, by show (0 : Int) ≤ 15; omega⟩, by show (0 : Int) ≤ 1; omega, by show (1 : Int) ≤ 100; omega⟩
theorem back_adds (g : Gen) : Adds (mo g) (bk g) stMapBack := fun K t K' hK ht h => by
  obtain ⟨x1, x2, y1, y2, d1, d2, e1, e2⟩ := M.ok_iff.1 ht.1
  have hab := bck_args ht
  have h1 := step_Rg g hK hab.1 hab.2 h
  refine ⟨h1.1, h1.2.trans ?_⟩
  congr 1
  show Lq.sc (zz (sg t (t.m.d + t.m.e)) * zz 1) (Lq.mul (mo g ⟨0, 0, t.m.d, t.m.e⟩) (mo g ⟨t.m.x, t.m.y, 0, 0⟩)) = Lq.sc (zz t.c) (bk g t.m)
  rw [bk_is, Lq.sc_sc]
  unfold sg
  rw [zz_mod, zz_mul, sgn_at (by omega), show (t.m.d + t.m.e).toNat = t.m.d.toNat + t.m.e.toNat by omega, sq1_add, zz_one]
  have e : zz t.c * (sq1 t.m.d.toNat * sq1 t.m.e.toNat) * 1 = zz t.c * (sq1 t.m.d.toNat * sq1 t.m.e.toNat) := by grind
  rw [e]
  rfl
theorem back_back (g : Gen) : Adds (bk g) (mo g) stMapBack := fun K t K' hK ht h => by
  obtain ⟨x1, x2, y1, y2, d1, d2, e1, e2⟩ := M.ok_iff.1 ht.1
  have hab := bck_args ht
  unfold stMapBack stepM at h
  split at h
  · rename_i hok
    cases h
    have tw : Two (bckA t) (bckB t) ((bckA t).m.sum (bckB t).m) := ⟨hab.1.1, hab.2.1, hok.1, rfl, rfl, rfl, rfl, hab.1.2, hab.2.2⟩
    have hp := pairL_facts tw
    refine ⟨(addL_facts hK hp.1).1, ?_⟩
    rw [Rg_add _ hK hp.1, Rb_pair g tw, bk_is, bk_is]
    congr 1
    show Lq.sc (zz (sg t (t.m.d + t.m.e)) * zz 1) (Lq.mul (Lq.sc (sq1 0 * sq1 0) (Lq.mul Lq.one (Lq.mul (Lq.pow g.x t.m.x.toNat) (Lq.pow g.y t.m.y.toNat)))) (Lq.sc (sq1 t.m.d.toNat * sq1 t.m.e.toNat) (Lq.mul (Lq.mul (Lq.pow g.d t.m.d.toNat) (Lq.pow g.e t.m.e.toNat)) Lq.one))) = Lq.sc (zz t.c) (mo g t.m)
    simp only [Lq.mul_sc, Lq.sc_mul, Lq.sc_sc]
    unfold sg
    rw [zz_mod, zz_mul, sgn_at (by omega), show (t.m.d + t.m.e).toNat = t.m.d.toNat + t.m.e.toNat by omega, sq1_add, zz_one]
    have q1 := sq1_sq t.m.d.toNat
    have q2 := sq1_sq t.m.e.toNat
    have q0 : sq1 0 = 1 := rfl
    have e : zz t.c * (sq1 t.m.d.toNat * sq1 t.m.e.toNat) * 1 * (sq1 t.m.d.toNat * sq1 t.m.e.toNat * (sq1 0 * sq1 0)) = zz t.c := by rw [q0]; grind
    first
      | rw [e]; rfl
      | (rw [show zz t.c * (sq1 t.m.d.toNat * sq1 t.m.e.toNat) * 1 * (sq1 0 * sq1 0 * (sq1 t.m.d.toNat * sq1 t.m.e.toNat)) = zz t.c by rw [q0]; grind]; rfl)
  · cases h
theorem bk_turn (g : Gen) {m : M} (h : m.ok = true) : bk (turnG g) m = Lq.sc (sq1 (m.x + m.y + m.d + m.e).toNat) (bk g m) := by
  obtain ⟨x1, x2, y1, y2, d1, d2, e1, e2⟩ := M.ok_iff.1 h
  rw [bk_is, bk_is]
  show Lq.sc _ (Lq.mul (Lq.mul (Lq.pow (Lq.neg g.d) _) (Lq.pow (Lq.neg g.e) _)) (Lq.mul (Lq.pow (Lq.neg g.x) _) (Lq.pow (Lq.neg g.y) _))) = _
  rw [neg_pow, neg_pow, neg_pow, neg_pow]
  simp only [Lq.mul_sc, Lq.sc_mul, Lq.sc_sc]
  congr 1
  rw [show (m.x + m.y + m.d + m.e).toNat = m.x.toNat + m.y.toNat + m.d.toNat + m.e.toNat by omega, sq1_add, sq1_add, sq1_add]
  grind
theorem turn_back (g : Gen) : Adds (bk g) (bk (turnG g)) stTurn := fun K t K' hK ht h => by
  have h2 : K' = putT (sg t (dg t)) t.m K := by unfold stTurn at h; exact (Option.some.inj h).symm
  rw [h2]
  have hr := sg_range t (dg t)
  obtain ⟨x1, x2, y1, y2, d1, d2, e1, e2⟩ := M.ok_iff.1 ht.1
  refine ⟨(putT_facts hK ht.1 hr.1 hr.2).1, ?_⟩
  rw [Rg_put _ hK ht.1 hr.1 hr.2, bk_turn g ht.1, Lq.sc_sc]
  congr 2
  unfold sg dg
  rw [zz_mod, zz_mul, sgn_at (by omega)]
def bkV (L : List T) : List T × Bool := mapBack (lf L) L.length
theorem bkV_if (L : List T) : bkV L = ([], false) ∨ ∃ X, bkV L = (X, true) := mapV_if _ L
theorem bk_facts {L X : List T} (h : bkV L = (X, true)) : okL L = true ∧ okL X = true ∧ (∀ g, Rp g X = Rg (bk g) L) ∧ ∀ g, Rg (bk g) X = Rp g L := by
  have h1 := fun g => map_Rg (back_adds g) h
  have h2 := fun g => map_Rg (back_back g) h
  exact ⟨(h1 stdG).1, (h1 stdG).2.1, fun g => (h1 g).2.2, fun g => (h2 g).2.2⟩
theorem bk_twice {A X Y : List T} (h1 : bkV A = (X, true)) (h2 : bkV X = (Y, true)) : Y = A := ok_eq (bk_facts h2).2.1 (bk_facts h1).1 (by rw [(bk_facts h2).2.2.1, (bk_facts h1).2.2.2])
theorem bk_prod {A B X Y AB U V : List T} (h1 : bkV A = (X, true)) (h2 : bkV B = (Y, true)) (h3 : wmV A B = (AB, true)) (h4 : bkV AB = (U, true)) (h5 : wmV Y X = (V, true)) : U = V :=
  ok_eq (bk_facts h4).2.1 (wm_ok h5) (by rw [(bk_facts h4).2.2.1, Rb_mul _ h3, Rp_mul _ h5, (bk_facts h1).2.2.1, (bk_facts h2).2.2.1])
theorem tu_bk {A X Y : List T} (oA : okL A = true) (h1 : bkV A = (X, true)) (h2 : bkV (tuV A) = (Y, true)) : tuV X = Y := by
  have h4 := tu_facts (bk_facts h1).2.1
  have h5 := fun g => (map_Rg (turn_back g) (tu_each oA)).2.2
  exact ok_eq h4.1 (bk_facts h2).2.1 (by rw [h4.2, (bk_facts h1).2.2.1, (bk_facts h2).2.2.1, h5])
end Go.Proofs.Ytfcmkkagjkkgjaa
