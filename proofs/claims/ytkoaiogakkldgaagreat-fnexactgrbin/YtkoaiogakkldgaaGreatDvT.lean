/-
  A division's greatest term is taken by one.
-/
import Derived.Test.YtkoaiogakkldgaaGreatDvL
namespace Go.Proofs.YtkoaiogakkldgaaGreat
open Go.RowKit Go.Deep Go.Joins Go.Maps
set_option linter.unusedVariables false

/-- six cells of three blocks. -/
abbrev C6 (A B C : Nat) (x y : Int) (m : M) (u : World) : Prop := u.cell? ⟨A, 0, none⟩ = some (.int .i64 x) ∧ u.cell? ⟨B, 0, none⟩ = some (.int .i64 y) ∧ u.cell? ⟨C, 0, none⟩ = some (.int .i64 m.x) ∧ u.cell? ⟨C, 1, none⟩ = some (.int .i64 m.y) ∧ u.cell? ⟨C, 2, none⟩ = some (.int .i64 m.d) ∧ u.cell? ⟨C, 3, none⟩ = some (.int .i64 m.e)
theorem C6.below {A B C : Nat} {x y : Int} {m : M} {u u' : World} (h : C6 A B C x y m u) (hb : Below u.heap.size u u') : C6 A B C x y m u' :=
  ⟨(hb.cell (p := ⟨A, 0, none⟩) (World.block_lt_of_cell? u _ h.1)).trans h.1, (hb.cell (p := ⟨B, 0, none⟩) (World.block_lt_of_cell? u _ h.2.1)).trans h.2.1, (hb.cell (p := ⟨C, 0, none⟩) (World.block_lt_of_cell? u _ h.2.2.1)).trans h.2.2.1, (hb.cell (p := ⟨C, 1, none⟩) (World.block_lt_of_cell? u _ h.2.2.2.1)).trans h.2.2.2.1, (hb.cell (p := ⟨C, 2, none⟩) (World.block_lt_of_cell? u _ h.2.2.2.2.1)).trans h.2.2.2.2.1, (hb.cell (p := ⟨C, 3, none⟩) (World.block_lt_of_cell? u _ h.2.2.2.2.2)).trans h.2.2.2.2.2⟩
/-- three cells of two blocks. -/
abbrev D3 (A B o : Nat) (v1 v2 v3 : Value) (u : World) : Prop := u.cell? ⟨A, 3, none⟩ = some v1 ∧ u.cell? ⟨A, 1, none⟩ = some v2 ∧ u.cell? ⟨B, o, none⟩ = some v3
theorem D3.below {A B o : Nat} {v1 v2 v3 : Value} {u u' : World} (h : D3 A B o v1 v2 v3 u) (hb : Below u.heap.size u u') : D3 A B o v1 v2 v3 u' :=
  ⟨(hb.cell (p := ⟨A, 3, none⟩) (World.block_lt_of_cell? u _ h.1)).trans h.1, (hb.cell (p := ⟨A, 1, none⟩) (World.block_lt_of_cell? u _ h.2.1)).trans h.2.1, (hb.cell (p := ⟨B, o, none⟩) (World.block_lt_of_cell? u _ h.2.2)).trans h.2.2⟩
theorem D3.turn {A B o : Nat} {v1 v2 v3 : Value} {u u' : World} {b n : Nat} {c : M → Int} (h : D3 A B o v1 v2 v3 u) (hs : SumR u b n c) (hg : u.grownBy u' (some b)) : D3 A B o v1 v2 v3 u' :=
  ⟨cell_grownMap hs h.1 hg, cell_grownMap hs h.2.1 hg, cell_grownMap hs h.2.2 hg⟩
theorem over_div {t l : T} (ht : t.m.ok = true ∧ 1 ≤ t.c ∧ t.c ≤ 100) (hl : l.m.ok = true ∧ 1 ≤ l.c ∧ l.c ≤ 100) : overT t l = ⟨fDiv t.c l.c, (M.over t.m l.m).1⟩ := by
  unfold overT
  rw [fDiv_in (by omega) ht.2.2 (by omega) hl.2.2, fInv_in (by omega) hl.2.2]
theorem take_coef {p Y : List T} (hp : Falls p) (hY : Falls Y) (m : M) : timesC 100 (lf Y) (coef p) Y.length m = coef (subL p Y) m := by
  rw [timesC_is (fl_lf hY) (fun m => coef_range hp m) _ (Nat.le_refl _), (subL_facts hp hY).2 m, fromC_lf]
set_option maxRecDepth 100000 in
set_option maxHeartbeats 8000000 in
theorem takeI (X : DvP) (w : World) (fu u N : Nat) (hN : N ≤ 400 + 400 * u) (S : Dv) (t : T) (k : Nat) (h : DvW X w fu u N S) (hok : DvOk u S) (hu : u < 300) (hl : lstOk X.n X.ln X.f = true) (h0 : S.p.length ≠ 0) (ht : ldL X.o S.p = t) (hkn : k < X.n) (hdv : M.dvd (ldAt X.o X.ln X.f k).m t.m = true) :
    Calls Tryz.prog 46 #[.pointer (some ⟨X.Bd, 0, none⟩), .int .i64 (k : Int), .agg #[.int .i64 t.c, .int .i64 t.m.x, .int .i64 t.m.y, .int .i64 t.m.d, .int .i64 t.m.e]] w fun r w' => Turn X w w' ∧ ((∃ S', dvTake X.o X.ln X.f S k = some S' ∧ r = .returned (.tuple #[]) ∧ DvW X w' fu (u + 1) (N + 400) S') ∨ (dvTake X.o X.ln X.f S k = none ∧ r = .panicked [{ v := tooMuch, recovered := false }])) := by
  have hg := ldL_good (o := X.o) (okL_falls hok.p).2 h0
  rw [ht] at hg
  have hlg := ldAt_good (o := X.o) hl hkn
  obtain ⟨l, hle⟩ : ∃ l, ldAt X.o X.ln X.f k = l := ⟨_, rfl⟩
  rw [hle] at hlg hdv
  obtain ⟨q, hqe⟩ : ∃ q, overT t l = q := ⟨_, rfl⟩
  have hqd := over_div hg hlg
  rw [hqe] at hqd
  have hqg := overT_good hg hlg hdv
  rw [hqe] at hqg
  have HD : Hid (dvT X.o X.ln X.f S k = q) := by show dvT X.o X.ln X.f S k = q; unfold dvT; rw [ht, hle, hqe]
  have hn12 : X.n ≤ 12 := (lstOk_all hl).1
  have hpk := ((lstOk_all hl).2 k hkn).2
  have hs0 := h.s0
  have hkc : (k : Int) < (X.n : Int) := by omega
  -- the blocks that are read
  obtain ⟨b1, off1, ea, hb1, hc1⟩ := h.ls.2.2.1.resolve_left (by omega)
  obtain ⟨bt, offt, et, hct⟩ := h.tk.2.resolve_left (by omega)
  obtain ⟨bl1, offl, el, hbl, hcl⟩ := h.ld.2.2.resolve_left (by omega)
  have k2 := h.c2
  have hbd : X.Bd < w.heap.size := World.block_lt_of_cell? w _ k2
  rw [el] at k2
  have hov : M.over ⟨t.m.x, t.m.y, t.m.d, t.m.e⟩ ⟨l.m.x, l.m.y, l.m.d, l.m.e⟩ = (q.m, true) := by
    rw [hqd]
    show M.over t.m l.m = ((M.over t.m l.m).1, true)
    rw [M.over, if_pos hdv]
  have hqc : fDiv t.c l.c = q.c := by rw [hqd]
  have hpo : ∀ W : World, Calls Tryz.prog 70 #[.int .i64 q.c, .agg #[.int .i64 q.m.x, .int .i64 q.m.y, .int .i64 q.m.d, .int .i64 q.m.e]] W fun r w' => ∃ a c, r = .returned (.slice a 1 c) ∧ Below W.heap.size W w' ∧ Out W.heap.size w' a c [q] := fun W => by
    refine (polOfI q.c q.m.x q.m.y q.m.d q.m.e W).mono ?_
    have e1 : polOf q.c ⟨q.m.x, q.m.y, q.m.d, q.m.e⟩ = [q] := by
      unfold polOf
      rw [if_pos ⟨hqg.2, hqg.1⟩]
    rw [e1]
    rintro r w' ⟨v, rfl, hb, ho⟩
    obtain ⟨a, c, rfl, hout⟩ := out_of_owns ho (by simp)
    exact ⟨a, c, rfl, hb, hout⟩
  have HPO := Hid.mk' hpo
  have HQC := Hid.mk' hqc
  clear hqc
  have hlcell : Cells w bl1 (offl + k * 5) l := by
    have := hcl k hkn
    rw [ldsL_at X.o X.ln X.f X.n k hkn, hle] at this
    exact this
  obtain ⟨x0, x1, x2, x3, x4⟩ := hlcell
  have HH := Hid.mk' h
  have HOK := Hid.mk' hok
  have HGQ := Hid.mk' hqg
  have HPK := Hid.mk' hpk
  have HCT := Hid.mk' hct
  have HC1 := Hid.mk' hc1
  have HBA := Hid.mk' (bel_two w (.cells #[.int .i64 t.c, .int .i64 t.m.x, .int .i64 t.m.y, .int .i64 t.m.d, .int .i64 t.m.e] 46) (.cells #[.int .i64 l.c, .int .i64 l.m.x, .int .i64 l.m.y, .int .i64 l.m.d, .int .i64 l.m.e] 46))
  have HCT5 := Hid.mk' ((C5.box w 46 t).below (bel_one _ (.cells #[.int .i64 l.c, .int .i64 l.m.x, .int .i64 l.m.y, .int .i64 l.m.d, .int .i64 l.m.e] 46)))
  have HCL5 := Hid.mk' (C5.box (w.alloc (.cells #[.int .i64 t.c, .int .i64 t.m.x, .int .i64 t.m.y, .int .i64 t.m.d, .int .i64 t.m.e] 46)) 46 l)
  simp only [World.size_alloc] at HCL5
  clear h hok hqg hpk hct hc1 hcl hqd hpo hqe hle hlg hdv
  go_enter Tryz.func46, Tryz.ntmps46
  go_wp2_with fail
  refine (monOverI_of hov _).mono ?_
  rintro r w1 ⟨rfl, hb1'⟩
  have HB1 := Hid.mk' (bel_next HBA.out hb1')
  have HT1 := Hid.mk' (HCT5.out.below hb1')
  have HL1 := Hid.mk' (HCL5.out.below hb1')
  clear hb1' HBA HCT5 HCL5 x0 x1 x2 x3 x4 k2 hov
  go_wp2_with fail
  have HB2 := Hid.mk' (HB1.out.alloc HB1.out.size (.cells #[.int .i64 q.m.x, .int .i64 q.m.y, .int .i64 q.m.d, .int .i64 q.m.e] 44))
  have HT2 := Hid.mk' (HT1.out.below (bel_one w1 (.cells #[.int .i64 q.m.x, .int .i64 q.m.y, .int .i64 q.m.d, .int .i64 q.m.e] 44)))
  have HL2 := Hid.mk' (HL1.out.below (bel_one w1 (.cells #[.int .i64 q.m.x, .int .i64 q.m.y, .int .i64 q.m.d, .int .i64 q.m.e] 44)))
  have HO2 := Hid.mk' (M4.box w1 44 q.m.x q.m.y q.m.d q.m.e)
  clear HB1 HT1 HL1
  generalize (w1.alloc (.cells #[.int .i64 q.m.x, .int .i64 q.m.y, .int .i64 q.m.d, .int .i64 q.m.e] 44)) = w2 at HB2 HT2 HL2 HO2 ⊢
  have y0 := HT2.out.1
  have z0 := HL2.out.1
  obtain ⟨o0, o1, o2, o3⟩ := HO2.out
  have hS3 : C6 w.heap.size (w.heap.size + 1) w1.heap.size t.c l.c q.m w2.drew := ⟨y0, z0, o0, o1, o2, o3⟩
  clear y0 z0 o0 o1 o2 o3
  go_region_held3 (fun u => u.cell? ⟨w.heap.size, 0, none⟩ = some (.int .i64 t.c) ∧ u.cell? ⟨w.heap.size + 1, 0, none⟩ = some (.int .i64 l.c) ∧ u.cell? ⟨w1.heap.size, 0, none⟩ = some (.int .i64 q.m.x) ∧ u.cell? ⟨w1.heap.size, 1, none⟩ = some (.int .i64 q.m.y) ∧ u.cell? ⟨w1.heap.size, 2, none⟩ = some (.int .i64 q.m.d) ∧ u.cell? ⟨w1.heap.size, 3, none⟩ = some (.int .i64 q.m.e)) (first | with_reducible exact hS3 | with_reducible exact C6.below hS3 bb3) (first | (go_at_call 71; refine (divI _ _ _).mono ?_; rw [HQC.out]; rintro r wd ⟨rfl, hwd⟩; obtain rfl := hwd.symm; clear hwd) | (go_at_call 70; refine (HPO.out _).mono ?_; rintro r w3 ⟨qa, qc, rfl, bb3, oo3⟩))
  have HB3 := Hid.mk' (bel_next HB2.out.drew bb3)
  have HW3 := Hid.mk' (HH.out.below HB3.out)
  have HQ3 := Hid.mk' oo3.1
  have k4 := HW3.out.c4
  rw [et] at k4
  have kt : w3.cell? ⟨bt, offt + k, none⟩ = some (.map (some (X.bk k))) := (HB3.out.cell (p := ⟨bt, offt + k, none⟩) (World.block_lt_of_cell? w _ (HCT.out k hkn))).trans (HCT.out k hkn)
  clear hS3 bb3 oo3 HB2 HT2 HL2 HO2 HPO
  have fq := fallsOne HGQ.out
  have hq1 : ∀ i, i < 1 → (lf [q] i).m.ok = true ∧ 0 ≤ (lf [q] i).c ∧ (lf [q] i).c ≤ 100 := fun i hi => by
    obtain rfl : i = 0 := by omega
    have := HGQ.out.2
    exact ⟨HGQ.out.1, by show 0 ≤ q.c; omega, this.2⟩
  have HADD := Hid.mk' (sumTimes w3 (X.bk k) u (coef (S.q k)) 1 qa 1 qc (lf [q]) (HW3.out.tq k hkn) HQ3.out ((HW3.out.tq k hkn).ne_rd HQ3.out) (fun i hi => (hq1 i hi).1) (fun i hi => (hq1 i hi).2) (by omega) (by omega) (by omega) (HW3.out.tq k hkn).lt)
  clear hq1
  go_wp2_with fail
  refine HADD.out.mono ?_
  rintro r w4 ⟨rfl, hS4, hg4⟩
  have hco : ∀ m, timesC 1 (lf [q]) (coef (S.q k)) 1 m = coef (addL (S.q k) [q]) m := fun m => by
    rw [timesC_is (n := 1) (fl_lf fq) (fun m => coef_range (HOK.out.q k).1 m) 1 (Nat.le_refl _), (addL_facts (HOK.out.q k).1 fq).2 m, show fromC (lf [q]) 1 0 m = coef [q] m from fromC_lf m [q]]
    have hb := coef_range fq m
    rw [show (1 : Int) * coef [q] m % 101 = coef [q] m by omega]
  have HW4 := Hid.mk' (HW3.out.turnTaken (u' := u + 1) (Nat.le_succ _) hkn hg4 (hS4.congr (fun m _ => hco m) (fun m => coef_range (addL_facts (HOK.out.q k).1 fq).1 m)))
  have HQ4 := Hid.mk' (HQ3.out.grownMap (HW3.out.tq k hkn) hg4)
  have HB4 := Hid.mk' ((Turn.of (X := X) HB3.out).trans (Turn.map hg4 (.inr (.inr ⟨k, hkn, rfl⟩))))
  clear hS4 hg4 hco HADD HQ3 HW3 HB3 k4 kt fq
  have HZW := Hid.mk' (HW4.out.below (Below.refl _ w4).drew)
  have HBZ := Hid.mk' HB4.out.drew
  have hmul := wylMulI w4.drew qa (X.ad k) 1 qc (X.ln k) (X.cp k) (lf [q]) (X.f k) (HQ4.out.below (Below.refl _ w4).drew) (HZW.out.ls.2.2.2 k hkn)
  have k3 : w4.cell? ⟨X.Bd, 3, none⟩ = some (.map (some X.br)) := HW4.out.c3
  have k1 : w4.cell? ⟨X.Bd, 1, none⟩ = some (.slice (some ⟨b1, off1, none⟩) X.n X.cap) := by rw [← ea]; exact HW4.out.c1
  have kc : w4.cell? ⟨b1, off1 + k, none⟩ = some (.slice (X.ad k) (X.ln k) (X.cp k)) := by
    rcases HW4.out.ls.2.2.1 with hz | ⟨b', off', e', _, hc'⟩
    · omega
    · rw [ea] at e'
      cases e'
      exact hc' k hkn
  have HLO : Hid (X.s0 ≤ w4.drew.heap.size) := HZW.out.s0
  have hop : polOk 1 (lf [q]) = true := one_ok HGQ.out
  have ewm : wylMul (lf [q]) 1 (X.f k) (X.ln k) = mulO (mulM (lf [q]) (X.f k) (X.ln k) 1) := if_pos ⟨hop, HPK.out⟩
  rw [ewm] at hmul
  clear hop ewm
  cases hY : mulM (lf [q]) (X.f k) (X.ln k) 1 with
  | none =>
    have HN : Hid (dvTake X.o X.ln X.f S k = none) := by
      show dvTake X.o X.ln X.f S k = none
      unfold dvTake
      rw [HD.out, hY]
    rw [hY] at hmul
    simp only [mulO] at hmul
    have HMUL := Hid.mk' hmul
    clear hmul hY
    go_wp2_with fail
    refine wp_region_any (by kernel_rfl) ?_
    (try (change wpAny _ _ _ _ _ _ _ (World.drew _)))
    refine wpAny_take (i := 0) (v := ?_) rfl (by kernel_rfl) (by kernel_rfl) (by kernel_rfl) (fun _ _ _ h => h) (Or.inl ⟨by rfl, ?_⟩) ?_
    rotate_left
    · (intro w9; go_simp) <;> with_reducible rfl
    refine wpAny_take (i := 1) (v := ?_) rfl (by kernel_rfl) (by kernel_rfl) (by kernel_rfl) (fun _ _ _ h => h) (Or.inl ⟨by rfl, ?_⟩) ?_
    rotate_left
    · (intro w9; go_simp) <;> with_reducible rfl
    refine wpAny_take (i := 2) (v := ?_) rfl (by kernel_rfl) (by kernel_rfl) (by kernel_rfl) (fun _ _ _ h => h) (Or.inl ⟨by rfl, ?_⟩) ?_
    rotate_left
    · (intro w9; go_simp) <;> with_reducible rfl
    refine wpAny_take (i := 4) (v := ?_) rfl (by kernel_rfl) (by kernel_rfl) (by kernel_rfl) (fun _ _ _ h => h) (Or.inl ⟨by rfl, ?_⟩) ?_
    rotate_left
    · (intro w9; go_simp) <;> with_reducible rfl
    refine wpAny_take (i := 5) (v := ?_) rfl (by kernel_rfl) (by kernel_rfl) (by kernel_rfl) (fun _ _ _ h => h) (Or.inl ⟨by rfl, ?_⟩) ?_
    rotate_left
    · (intro w9; go_simp) <;> with_reducible rfl
    refine wpAny_take (i := 6) (v := ?_) rfl (by kernel_rfl) (by kernel_rfl) (by kernel_rfl) (fun _ _ _ h => h) (Or.inl ⟨by rfl, ?_⟩) ?_
    rotate_left
    · (intro w9; go_simp) <;> with_reducible rfl
    refine wpAny_take (i := 7) (v := ?_) rfl (by kernel_rfl) (by kernel_rfl) (by kernel_rfl) (fun _ _ _ h => h) (Or.inl ⟨by rfl, ?_⟩) ?_
    rotate_left
    · (intro w9; go_simp) <;> with_reducible rfl
    refine wpAny_take (i := 9) (v := ?_) rfl (by kernel_rfl) (by kernel_rfl) (by kernel_rfl) (fun _ _ _ h => h) (Or.inl ⟨by rfl, ?_⟩) ?_
    rotate_left
    · (intro w9; go_simp) <;> with_reducible rfl
    refine wpAny_ready (rs := [3, 8]) (by kernel_rfl) (by simp) ?_
    refine AllReady.cons rfl (fun KK hKK => ?_) ?_
    · go_simp
      (try (refine hKK _ _ ?_; clear hKK KK))
      refine wpAny_ready (rs := [8]) (by kernel_rfl) (by simp) ?_
      refine AllReady.cons rfl (fun KK hKK => ?_) ?_
      · go_simp
        (try (refine hKK _ _ ?_; clear hKK KK))
        refine wpAny_take (i := 10) (v := ?_) rfl (by kernel_rfl) (by kernel_rfl) (by kernel_rfl) (fun _ _ _ h => h) (Or.inl ⟨by rfl, ?_⟩) ?_
        rotate_left
        · (intro w9; go_simp) <;> with_reducible rfl
        refine wpAny_ready (rs := [11]) (by kernel_rfl) (by simp) ?_
        refine AllReady.cons rfl (fun KK hKK => ?_) ?_
        · go_simp
          (try (refine hKK _ _ ?_; clear hKK KK))
          refine wpAny_ready (rs := [12]) (by kernel_rfl) (by simp) ?_
          refine AllReady.cons rfl (fun KK hKK => ?_) ?_
          · go_simp
            go_wp2_with (go_at_call 72; refine HMUL.out.mono ?_; rintro e w1 ⟨p1a, p1c, rfl, bb1, oo1⟩; have hs1 := (HZW.out.below bb1).c3)
            (try (refine hKK _ _ ?_; clear hKK KK))
            refine wpAny_take (i := 13) (v := ?_) rfl (by kernel_rfl) (by kernel_rfl) (by kernel_rfl) (fun _ _ _ h => h) (Or.inl ⟨by rfl, ?_⟩) ?_
            rotate_left
            · (intro w9; go_simp) <;> with_reducible rfl
            refine wpAny_take (i := 14) (v := ?_) rfl (by kernel_rfl) (by kernel_rfl) (by kernel_rfl) (fun _ _ _ h => h) (Or.inl ⟨by rfl, ?_⟩) ?_
            rotate_left
            · (intro w9; go_simp) <;> with_reducible rfl
            refine wpAny_ready (rs := [15]) (by kernel_rfl) (by simp) ?_
            refine AllReady.cons rfl (fun KK hKK => ?_) ?_
            · go_simp
              go_wp2_with (go_at_call 48; refine (redNeed_no _ _).mono ?_; rintro e wn ⟨rfl, hwn⟩; obtain rfl := hwn.symm; clear hwn)
              exact ⟨rfl, HBZ.out.trans (Turn.of bb1), .inr ⟨HN.out, rfl⟩⟩
            exact AllReady.nil
          exact AllReady.nil
        exact AllReady.nil
      exact AllReady.nil
    refine AllReady.cons rfl (fun KK hKK => ?_) ?_
    · go_simp
      (try (refine hKK _ _ ?_; clear hKK KK))
      refine wpAny_take (i := 10) (v := ?_) rfl (by kernel_rfl) (by kernel_rfl) (by kernel_rfl) (fun _ _ _ h => h) (Or.inl ⟨by rfl, ?_⟩) ?_
      rotate_left
      · (intro w9; go_simp) <;> with_reducible rfl
      refine wpAny_ready (rs := [3, 11]) (by kernel_rfl) (by simp) ?_
      refine AllReady.cons rfl (fun KK hKK => ?_) ?_
      · go_simp
        (try (refine hKK _ _ ?_; clear hKK KK))
        refine wpAny_ready (rs := [11]) (by kernel_rfl) (by simp) ?_
        refine AllReady.cons rfl (fun KK hKK => ?_) ?_
        · go_simp
          (try (refine hKK _ _ ?_; clear hKK KK))
          refine wpAny_ready (rs := [12]) (by kernel_rfl) (by simp) ?_
          refine AllReady.cons rfl (fun KK hKK => ?_) ?_
          · go_simp
            go_wp2_with (go_at_call 72; refine HMUL.out.mono ?_; rintro e w1 ⟨p1a, p1c, rfl, bb1, oo1⟩; have hs1 := (HZW.out.below bb1).c3)
            (try (refine hKK _ _ ?_; clear hKK KK))
            refine wpAny_take (i := 13) (v := ?_) rfl (by kernel_rfl) (by kernel_rfl) (by kernel_rfl) (fun _ _ _ h => h) (Or.inl ⟨by rfl, ?_⟩) ?_
            rotate_left
            · (intro w9; go_simp) <;> with_reducible rfl
            refine wpAny_take (i := 14) (v := ?_) rfl (by kernel_rfl) (by kernel_rfl) (by kernel_rfl) (fun _ _ _ h => h) (Or.inl ⟨by rfl, ?_⟩) ?_
            rotate_left
            · (intro w9; go_simp) <;> with_reducible rfl
            refine wpAny_ready (rs := [15]) (by kernel_rfl) (by simp) ?_
            refine AllReady.cons rfl (fun KK hKK => ?_) ?_
            · go_simp
              go_wp2_with (go_at_call 48; refine (redNeed_no _ _).mono ?_; rintro e wn ⟨rfl, hwn⟩; obtain rfl := hwn.symm; clear hwn)
              exact ⟨rfl, HBZ.out.trans (Turn.of bb1), .inr ⟨HN.out, rfl⟩⟩
            exact AllReady.nil
          exact AllReady.nil
        exact AllReady.nil
      refine AllReady.cons rfl (fun KK hKK => ?_) ?_
      · go_simp
        (try (refine hKK _ _ ?_; clear hKK KK))
        refine wpAny_ready (rs := [3, 12]) (by kernel_rfl) (by simp) ?_
        refine AllReady.cons rfl (fun KK hKK => ?_) ?_
        · go_simp
          (try (refine hKK _ _ ?_; clear hKK KK))
          refine wpAny_ready (rs := [12]) (by kernel_rfl) (by simp) ?_
          refine AllReady.cons rfl (fun KK hKK => ?_) ?_
          · go_simp
            go_wp2_with (go_at_call 72; refine HMUL.out.mono ?_; rintro e w1 ⟨p1a, p1c, rfl, bb1, oo1⟩; have hs1 := (HZW.out.below bb1).c3)
            (try (refine hKK _ _ ?_; clear hKK KK))
            refine wpAny_take (i := 13) (v := ?_) rfl (by kernel_rfl) (by kernel_rfl) (by kernel_rfl) (fun _ _ _ h => h) (Or.inl ⟨by rfl, ?_⟩) ?_
            rotate_left
            · (intro w9; go_simp) <;> with_reducible rfl
            refine wpAny_take (i := 14) (v := ?_) rfl (by kernel_rfl) (by kernel_rfl) (by kernel_rfl) (fun _ _ _ h => h) (Or.inl ⟨by rfl, ?_⟩) ?_
            rotate_left
            · (intro w9; go_simp) <;> with_reducible rfl
            refine wpAny_ready (rs := [15]) (by kernel_rfl) (by simp) ?_
            refine AllReady.cons rfl (fun KK hKK => ?_) ?_
            · go_simp
              go_wp2_with (go_at_call 48; refine (redNeed_no _ _).mono ?_; rintro e wn ⟨rfl, hwn⟩; obtain rfl := hwn.symm; clear hwn)
              exact ⟨rfl, HBZ.out.trans (Turn.of bb1), .inr ⟨HN.out, rfl⟩⟩
            exact AllReady.nil
          exact AllReady.nil
        refine AllReady.cons rfl (fun KK hKK => ?_) ?_
        · go_simp
          go_wp2_with (go_at_call 72; refine HMUL.out.mono ?_; rintro e w1 ⟨p1a, p1c, rfl, bb1, oo1⟩; have hs1 := (HZW.out.below bb1).c3)
          (try (refine hKK _ _ ?_; clear hKK KK))
          refine wpAny_take (i := 13) (v := ?_) rfl (by kernel_rfl) (by kernel_rfl) (by kernel_rfl) (fun _ _ _ h => h) (Or.inl ⟨by rfl, ?_⟩) ?_
          rotate_left
          · (intro w9; go_simp) <;> with_reducible rfl
          refine wpAny_take (i := 14) (v := ?_) rfl (by kernel_rfl) (by kernel_rfl) (by kernel_rfl) (fun _ _ _ h => h) (Or.inl ⟨by rfl, ?_⟩) ?_
          rotate_left
          · (intro w9; go_simp) <;> with_reducible rfl
          refine wpAny_ready (rs := [3, 15]) (by kernel_rfl) (by simp) ?_
          refine AllReady.cons rfl (fun KK hKK => ?_) ?_
          · go_simp
            (try (refine hKK _ _ ?_; clear hKK KK))
            refine wpAny_ready (rs := [15]) (by kernel_rfl) (by simp) ?_
            refine AllReady.cons rfl (fun KK hKK => ?_) ?_
            · go_simp
              go_wp2_with (go_at_call 48; refine (redNeed_no _ _).mono ?_; rintro e wn ⟨rfl, hwn⟩; obtain rfl := hwn.symm; clear hwn)
              exact ⟨rfl, HBZ.out.trans (Turn.of bb1), .inr ⟨HN.out, rfl⟩⟩
            exact AllReady.nil
          refine AllReady.cons rfl (fun KK hKK => ?_) ?_
          · go_simp
            go_wp2_with (go_at_call 48; refine (redNeed_no _ _).mono ?_; rintro e wn ⟨rfl, hwn⟩; obtain rfl := hwn.symm; clear hwn)
            exact ⟨rfl, HBZ.out.trans (Turn.of bb1), .inr ⟨HN.out, rfl⟩⟩
          exact AllReady.nil
        exact AllReady.nil
      exact AllReady.nil
    exact AllReady.nil
  | some Y =>
    have kY := mul1_falls HGQ.out HPK.out hY
    obtain ⟨lY, fY⟩ := okL_falls kY
    rw [hY] at hmul
    simp only [mulO] at hmul
    have HMUL := Hid.mk' hmul
    have fp := (okL_falls HOK.out.p).2
    have hadd : ∀ (W : World) (ya : Option Addr) (yc : Nat), DvW X W fu (u + 1) N ⟨S.p, updQ S.q k (addL (S.q k) [q]), S.r⟩ → Out w4.drew.heap.size W ya yc Y → Calls Tryz.prog 42 #[.map (some X.br), .int .i64 100, .slice ya Y.length yc] W fun e w' => e = .returned (.tuple #[]) ∧ SumR w' X.br (N + Y.length) (coef (subL S.p Y)) ∧ W.grownBy w' (some X.br) := fun W ya yc hWW hO => by
      refine (sumTimes W X.br N (coef S.p) 100 ya Y.length yc (lf Y) hWW.rs hO.1 (hWW.rs.ne_rd hO.1) (fun i hi => (fY.2 _ (lf_mem hi)).1) (fun i hi => by have := fY.2 _ (lf_mem hi); omega) (by omega) (by omega) (by omega) hWW.rs.lt).mono ?_
      rintro e w' ⟨rfl, hs, hgg⟩
      exact ⟨rfl, hs.congr (fun m _ => take_coef fp fY m) (fun m => coef_range (subL_facts fp fY).1 m), hgg⟩
    have HADD := Hid.mk' hadd
    have HDV : Hid (dvTake X.o X.ln X.f S k = if (subL S.p Y).length ≤ 400 then some ⟨subL S.p Y, updQ S.q k (addL (S.q k) [q]), S.r⟩ else none) := by
      show dvTake X.o X.ln X.f S k = _
      unfold dvTake
      rw [HD.out, hY]
    have HFS := Hid.mk' (subL_facts fp fY).1
    have hsl := subL_len S.p Y
    clear hmul hY hadd kY
    go_wp2_with fail
    have hS5 : D3 X.Bd b1 (off1 + k) (.map (some X.br)) (.slice (some ⟨b1, off1, none⟩) X.n X.cap) (.slice (X.ad k) (X.ln k) (X.cp k)) w4.drew := ⟨k3, k1, kc⟩
    clear k3 k1 kc
    go_region_held3 (fun u => u.cell? ⟨X.Bd, 3, none⟩ = some (.map (some X.br)) ∧ u.cell? ⟨X.Bd, 1, none⟩ = some (.slice (some ⟨b1, off1, none⟩) X.n X.cap) ∧ u.cell? ⟨b1, off1 + k, none⟩ = some (.slice (X.ad k) (X.ln k) (X.cp k))) (first | with_reducible exact hS5 | with_reducible exact D3.below hS5 bb5 | with_reducible exact D3.turn (D3.below hS5 bb5) (HZW.out.below bb5).rs hg6) (first
        | (go_at_call 72; refine HMUL.out.mono ?_; rintro e w5 ⟨ya, yc, rfl, bb5, oo5⟩)
        | (go_at_call 48; refine (redNeed_yes _ _).mono ?_; rintro e wn ⟨rfl, hwn⟩; obtain rfl := hwn.symm; clear hwn)
        | (go_at_call 42; refine (HADD.out w5 ya yc (HZW.out.below bb5) oo5).mono ?_; rintro e w6 ⟨rfl, hS6, hg6⟩))
    have HW5 := Hid.mk' (HZW.out.below bb5)
    have HW6 := Hid.mk' (HW5.out.turnRest (N' := N + 400) (p := subL S.p Y) (Nat.le_refl _) hg6 (hS6.more (by omega)))
    have HB6 := Hid.mk' ((HBZ.out.trans (Turn.of bb5)).trans (Turn.map hg6 (.inl rfl)))
    have hlen := hS6.len HFS.out 3
    have k6 := HW6.out.c3
    clear bb5 oo5 hS6 hg6 hS5
    by_cases hle : (subL S.p Y).length ≤ 400
    · have hgt : ¬ (400 : Int) < ((subL S.p Y).length : Int) := by omega
      have HDS := Hid.mk' (HDV.out.trans (if_pos hle))
      go_wp2
      go_end0
      exact ⟨HB6.out, .inl ⟨_, HDS.out, rfl, HW6.out⟩⟩
    · have hgt : (400 : Int) < ((subL S.p Y).length : Int) := by omega
      have HDS := Hid.mk' (HDV.out.trans (if_neg hle))
      go_wp2
      exact ⟨rfl, HB6.out, .inr ⟨HDS.out, rfl⟩⟩
end Go.Proofs.YtkoaiogakkldgaaGreat
