/-
  A division's step.
-/
import Derived.Test.YtkoaiogakkldgaaGreatDvT
namespace Go.Proofs.YtkoaiogakkldgaaGreat
open Go.RowKit Go.Deep Go.Joins Go.Maps
set_option linter.unusedVariables false

abbrev E5 (A g : Nat) (v : Value) (m : M) (u : World) : Prop := u.cell? ⟨A, 2, none⟩ = some v ∧ u.cell? ⟨g, 1, none⟩ = some (.int .i64 m.x) ∧ u.cell? ⟨g, 2, none⟩ = some (.int .i64 m.y) ∧ u.cell? ⟨g, 3, none⟩ = some (.int .i64 m.d) ∧ u.cell? ⟨g, 4, none⟩ = some (.int .i64 m.e)
theorem E5.below {A g : Nat} {v : Value} {m : M} {u u' : World} (h : E5 A g v m u) (hb : Below u.heap.size u u') : E5 A g v m u' :=
  ⟨(hb.cell (p := ⟨A, 2, none⟩) (World.block_lt_of_cell? u _ h.1)).trans h.1, (hb.cell (p := ⟨g, 1, none⟩) (World.block_lt_of_cell? u _ h.2.1)).trans h.2.1, (hb.cell (p := ⟨g, 2, none⟩) (World.block_lt_of_cell? u _ h.2.2.1)).trans h.2.2.1, (hb.cell (p := ⟨g, 3, none⟩) (World.block_lt_of_cell? u _ h.2.2.2.1)).trans h.2.2.2.1, (hb.cell (p := ⟨g, 4, none⟩) (World.block_lt_of_cell? u _ h.2.2.2.2)).trans h.2.2.2.2⟩
theorem idxF_congr {p : T → Bool} {f g : Nat → T} : ∀ {n : Nat}, (∀ i, i < n → f i = g i) → idxF p f n = idxF p g n
  | 0, _ => rfl
  | n + 1, h => by
    have ih := idxF_congr (p := p) (f := f) (g := g) (n := n) (fun i hi => h i (by omega))
    unfold idxF
    rw [ih, h n (by omega)]
theorem DvW.moreN {X : DvP} {w : World} {fu u N N' : Nat} {S : Dv} (h : DvW X w fu u N S) (hn : N ≤ N') : DvW X w fu u N' S :=
  { h with rs := h.rs.more hn }
set_option maxRecDepth 100000 in
set_option maxHeartbeats 8000000 in
theorem stepNo (X : DvP) (w : World) (u N : Nat) (S : Dv) (h : DvW X w 0 u N S) :
    Calls Tryz.prog 28 #[.pointer (some ⟨X.Bd, 0, none⟩)] w fun r w' => r = .panicked [{ v := tooMuch, recovered := false }] ∧ w' = w := by
  have k6 := h.c6
  have hz : ((0 : Nat) : Int) = 0 := rfl
  rw [hz] at k6
  clear h hz
  go_enter Tryz.func28, Tryz.ntmps28
  go_wp2
  exact ⟨rfl, rfl, rfl⟩
set_option maxRecDepth 100000 in
set_option maxHeartbeats 8000000 in
theorem stepI (X : DvP) (w : World) (fu u N : Nat) (hN : N ≤ 400 + 400 * u) (S : Dv) (h : DvW X w (fu + 1) u N S) (hrk : X.rk = rkF X.o) (ho : 1 ≤ X.o ∧ X.o ≤ 3) (hok : DvOk u S) (hu : u < 300) (hl : lstOk X.n X.ln X.f = true) (h0 : S.p.length ≠ 0) (hfu : fu < 300) :
    Calls Tryz.prog 28 #[.pointer (some ⟨X.Bd, 0, none⟩)] w fun r w' => Turn X w w' ∧ ((∃ S', dvStep X.o X.n X.ln X.f S = some S' ∧ r = .returned (.tuple #[]) ∧ DvW X w' fu (u + 1) (N + 400) S') ∨ (dvStep X.o X.n X.ln X.f S = none ∧ r = .panicked [{ v := tooMuch, recovered := false }])) := by
  obtain ⟨t, ht⟩ : ∃ t, ldL X.o S.p = t := ⟨_, rfl⟩
  have k6 := h.c6
  have kz := h.fz
  have hf1 : (((fu + 1 : Nat) : Int) == 0) = false := by simp; omega
  have hf2 : ((fu + 1 : Nat) : Int) - 1 = (fu : Int) := by omega
  have hff : ((fu + 1 : Nat) : Int) ≤ 1000 := by omega
  have hff0 : 0 ≤ ((fu + 1 : Nat) : Int) := by omega
  generalize hx : ((fu + 1 : Nat) : Int) = x at k6 hf1 hf2 hff hff0
  have HB := Hid.mk' h.burn
  have hs0 := h.s0
  have hB0 : Turn X w (w.setCell ⟨X.Bd, 6, none⟩ (.int .i64 (fu : Int))) := Turn.fuel (grownSet _ _ _ _)
  have HB0 := Hid.mk' hB0
  have HOK := Hid.mk' hok
  clear h hok hx hB0
  go_enter Tryz.func28, Tryz.ntmps28
  go_wp2_with fail
  generalize (w.setCell ⟨X.Bd, 6, none⟩ (.int .i64 (fu : Int))) = w1 at HB HB0 ⊢
  have HWD := Hid.mk' (HB.out.below (Below.refl _ w1).drew)
  have k0 := HB.out.c0
  have k3 := HB.out.c3
  have hbd : X.Bd < w1.heap.size := World.block_lt_of_cell? w1 _ k0
  have hgr : ∀ W : World, DvW X W fu u N S → Calls Tryz.prog 44 #[.map (some X.br), .func (.func X.rk) #[] #[]] W fun r w' => r = .returned (.agg #[.int .i64 t.c, .int .i64 t.m.x, .int .i64 t.m.y, .int .i64 t.m.d, .int .i64 t.m.e]) ∧ Below W.heap.size W w' := fun W hW => by
    rw [hrk]
    exact greatestI X.o ho W X.br N S.p hW.rs HOK.out.p h0 t ht
  have HGR := Hid.mk' hgr
  have HDA := Hid.mk' ((HB.out.below (bel_one w1 (.cells #[.int .i64 0, .int .i64 0, .int .i64 0, .int .i64 0, .int .i64 0] 46))).below (Below.refl _ _).drew)
  have HZA : Hid (∀ v : World, Below (w1.alloc (.cells #[.int .i64 0, .int .i64 0, .int .i64 0, .int .i64 0, .int .i64 0] 46)).drew.heap.size (w1.alloc (.cells #[.int .i64 0, .int .i64 0, .int .i64 0, .int .i64 0, .int .i64 0] 46)).drew v → Own5 v w1.heap.size ⟨0, ⟨0, 0, 0, 0⟩⟩) := fun v hv => ((Own5.box w1 46 ⟨0, ⟨0, 0, 0, 0⟩⟩).below (Below.refl _ _).drew).below hv
  clear hgr k6 kz hf1 hf2 hrk
  refine Code.wp_mono (Q := NoPanic fun e a v => e = Exit.normal ∧ ∃ g : Nat, a = { tmps := #[.pointer (some ⟨X.Bd, 0, none⟩), undef, .pointer (some ⟨g, 0, none⟩), undef, .pointer (some ⟨X.Bd, 0, none⟩), .pointer (some ⟨X.Bd, 0, none⟩), .pointer (some ⟨X.Bd, 6, none⟩), .int .i64 x, .bool false, undef, undef, .pointer (some ⟨X.Bd, 0, none⟩), .pointer (some ⟨X.Bd, 0, none⟩), .pointer (some ⟨X.Bd, 6, none⟩), .int .i64 x, .int .i64 (fu : Int), .pointer (some ⟨X.Bd, 0, none⟩), .pointer (some ⟨X.Bd, 6, none⟩), .pointer (some ⟨X.Bd, 0, none⟩), .pointer (some ⟨X.Bd, 0, none⟩), .pointer (some ⟨X.Bd, 3, none⟩), .map (some X.br), .pointer (some ⟨X.Bd, 0, none⟩), .pointer (some ⟨X.Bd, 0, none⟩), .pointer (some ⟨X.Bd, 0, none⟩), .func (.func X.rk) #[] #[], .agg #[.int .i64 t.c, .int .i64 t.m.x, .int .i64 t.m.y, .int .i64 t.m.d, .int .i64 t.m.e], undef, undef, undef, undef, undef, undef, undef, undef, undef, undef, undef, undef, undef, undef, undef, undef], defers := [] } ∧ C5 v g t ∧ DvW X v fu u N S ∧ Turn X w v) ?_ ?_
  rotate_left
  · go_region_with (go_at_call 44; refine (HGR.out _ ?_).mono ?_; (first | with_reducible exact HWD.out | with_reducible exact HDA.out); rintro r w4 ⟨rfl, hb4⟩; (try (have hz4 := HZA.out _ hb4; obtain ⟨⟨z0, z1, z2, z3, z4⟩, zf⟩ := hz4)); (have HB4 : Hid (Below w1.heap.size w1 w4) := by first | exact bel_next (Below.refl _ w1).drew hb4 | exact bel_next (bel_one w1 (.cells #[.int .i64 0, .int .i64 0, .int .i64 0, .int .i64 0, .int .i64 0] 46)).drew hb4); clear hb4)
    all_goals
      first
      | exact NoPanic.normal ⟨rfl, _, rfl, ⟨by go_simp, by go_simp, by go_simp, by go_simp, by go_simp⟩, HB.out.below (bel_s5 HB4.out (Nat.le_refl _) _ _ _ _ _), HB0.out.trans (Turn.of (bel_s5 HB4.out (Nat.le_refl _) _ _ _ _ _))⟩
      | exact NoPanic.normal ⟨rfl, _, rfl, C5.box w4 46 t, HB.out.below (HB4.out.alloc HB4.out.size _), HB0.out.trans (Turn.of (HB4.out.alloc HB4.out.size _))⟩
  · intro e5 a5 w5 hq5
    obtain ⟨rfl, g, rfl, hc5, hW5, hB5⟩ := NoPanic.imp _ _ _ hq5
    have HW5 := Hid.mk' hW5
    have HB5 := Hid.mk' hB5
    have HC5 := Hid.mk' hc5
    have hgl := hc5.lt
    have HWD5 := Hid.mk' (hW5.below (Below.refl _ w5).drew)
    have hS5 : E5 X.Bd g (.slice X.al X.n X.cl) t.m w5.drew := ⟨hW5.c2, hc5.2.1, hc5.2.2.1, hc5.2.2.2.1, hc5.2.2.2.2⟩
    have hfst : Calls Tryz.prog 45 #[.slice X.al X.n X.cl, .agg #[.int .i64 t.m.x, .int .i64 t.m.y, .int .i64 t.m.d, .int .i64 t.m.e]] w5.drew fun r w' => r = .returned (.int .i64 (dvK X.o X.n X.ln X.f t.m)) ∧ Below w5.drew.heap.size w5.drew w' := by
      have := redFirstI w5.drew X.al X.n X.cl (lf (ldsL X.o X.ln X.f X.n)) t.m HWD5.out.ld
      rw [show idxF (fun s => M.dvd s.m t.m) (lf (ldsL X.o X.ln X.f X.n)) X.n = dvK X.o X.n X.ln X.f t.m from idxF_congr (fun i hi => ldsL_at X.o X.ln X.f X.n i hi)] at this
      exact this
    have HFST := Hid.mk' hfst
    obtain ⟨z, hz⟩ : ∃ z, dvK X.o X.n X.ln X.f t.m = z := ⟨_, rfl⟩
    rw [hz] at HFST
    have HZ := Hid.mk' hz
    have HGO := Hid.mk' (ldL_good (o := X.o) (okL_falls HOK.out.p).2 h0)
    clear hW5 hB5 hc5 hfst hz k0 k3 hbd HWD HDA HZA HGR HB HB0 hq5
    go_wp2_with fail
    go_region_held3 (fun u => u.cell? ⟨X.Bd, 2, none⟩ = some (.slice X.al X.n X.cl) ∧ u.cell? ⟨g, 1, none⟩ = some (.int .i64 t.m.x) ∧ u.cell? ⟨g, 2, none⟩ = some (.int .i64 t.m.y) ∧ u.cell? ⟨g, 3, none⟩ = some (.int .i64 t.m.d) ∧ u.cell? ⟨g, 4, none⟩ = some (.int .i64 t.m.e)) (first | with_reducible exact hS5 | with_reducible exact E5.below hS5 b6) (first | (go_at_call 45; refine HFST.out.mono ?_; rintro r w6 ⟨rfl, b6⟩))
    have HW6 := Hid.mk' (HWD5.out.below b6)
    have HB6 := Hid.mk' (HB5.out.drew.trans (Turn.of b6))
    obtain ⟨y0, y1, y2, y3, y4⟩ := (HC5.out.below (Below.refl _ w5).drew).below b6
    clear hS5 HFST b6 HWD5 HW5 HB5 HC5
    by_cases hzz : 0 ≤ z
    · obtain ⟨k, hk⟩ : ∃ k : Nat, z = (k : Int) := ⟨z.toNat, by omega⟩
      subst hk
      have hfk : (dvK X.o X.n X.ln X.f t.m).toNat = k := by rw [HZ.out]; simp
      have hd := dvK_facts (o := X.o) (n := X.n) (ln := X.ln) (f := X.f) (m := t.m) (by rw [HZ.out]; exact hzz)
      rw [hfk] at hd
      have HST : Hid (dvStep X.o X.n X.ln X.f S = dvTake X.o X.ln X.f S k) := by
        show dvStep X.o X.n X.ln X.f S = _
        unfold dvStep
        rw [ht, if_pos (by rw [HZ.out]; exact hzz), hfk]
      have HTK := Hid.mk' (takeI X w6 fu u N hN S t k HW6.out HOK.out hu hl h0 ht hd.1 hd.2)
      have hk1 : (k : Int) ≤ 1000 := by have := hd.1; have := (lstOk_all hl).1; omega
      clear hfk hd
      go_wp2_with fail
      refine HTK.out.mono ?_
      rintro r w7 ⟨hb7, hh⟩
      have HB7 := Hid.mk' (HB6.out.trans hb7)
      rcases hh with ⟨S', e1, rfl, hW7⟩ | ⟨e1, rfl⟩
      · have HW7 := Hid.mk' hW7
        have HE1 := Hid.mk' e1
        clear hW7 e1 hb7 HTK
        go_wp2
        go_end0
        rw [HST.out]
        exact ⟨HB7.out, .inl ⟨S', HE1.out, rfl, HW7.out⟩⟩
      · have HE1 := Hid.mk' e1
        clear e1 hb7 HTK
        go_wp2
        rw [HST.out]
        exact ⟨rfl, HB7.out, .inr ⟨HE1.out, rfl⟩⟩
    · have hzl : z < 0 := by omega
      have HST : Hid (dvStep X.o X.n X.ln X.f S = some (dvLeave X.o S)) := by
        show dvStep X.o X.n X.ln X.f S = _
        unfold dvStep
        rw [ht, if_neg (by rw [HZ.out]; exact hzz)]
      have HLV := Hid.mk' (leaveI X w6 fu u N S t HW6.out HOK.out hu h0 ht)
      go_wp2_with fail
      refine HLV.out.mono ?_
      rintro r w7 ⟨rfl, hW7, hb7⟩
      have HB7 := Hid.mk' (HB6.out.trans hb7)
      have HW7 := Hid.mk' (hW7.moreN (N' := N + 400) (by omega))
      clear hW7 hb7 HLV
      go_wp2
      go_end0
      rw [HST.out]
      exact ⟨HB7.out, .inl ⟨_, rfl, rfl, HW7.out⟩⟩
end Go.Proofs.YtkoaiogakkldgaaGreat
