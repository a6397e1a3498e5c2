/-
  The greatest term of a sum while it is made.
  A division on its way in the world: its struct, its maps; what stays true where other memory turns.
  A division's greatest term is left.
-/
import Derived.Test.YtehlfifplhnceaaGreatGbf
import Derived.Test.YtehlfifplhnceaaGreatGaj
import Derived.Maps.RangeWalk
import Derived.Deep.RegionWith
namespace Go.Proofs.YtehlfifplhnceaaGreat
open Go.RowKit Go.Deep Go.Joins Go.Maps
set_option linter.unusedVariables false

theorem Own5.grown {w w' : World} {b : Nat} {t : T} {row : Option Nat} (h : Own5 w b t) (hg : w.grownBy w' row) (hne : some b ≠ row) : Own5 w' b t := by
  have hl := h.1.lt
  have hb := hg.block b hl hne
  obtain ⟨⟨h0, h1, h2, h3, h4⟩, h5⟩ := h
  exact ⟨⟨(World.cell?_of_block (a := ⟨b, 0, none⟩) hb).trans h0, (World.cell?_of_block (a := ⟨b, 1, none⟩) hb).trans h1, (World.cell?_of_block (a := ⟨b, 2, none⟩) hb).trans h2, (World.cell?_of_block (a := ⟨b, 3, none⟩) hb).trans h3, (World.cell?_of_block (a := ⟨b, 4, none⟩) hb).trans h4⟩, fun j => (World.frozen?_of_block (a := ⟨b, j, none⟩) hb).trans (h5 j)⟩
theorem grownSet (w : World) (b i : Nat) (v : Value) : w.grownBy (w.setCell ⟨b, i, none⟩ v) (some b) :=
  ⟨(Below.refl 0 w).setCell (p := ⟨b, i, none⟩) (Nat.zero_le _) v |>.os, (Below.refl 0 w).setCell (p := ⟨b, i, none⟩) (Nat.zero_le _) v |>.tape, (Below.refl 0 w).setCell (p := ⟨b, i, none⟩) (Nat.zero_le _) v |>.output, (Below.refl 0 w).setCell (p := ⟨b, i, none⟩) (Nat.zero_le _) v |>.size, fun k _ hk => Below.heap_setCell _ _ _ k (fun e => hk (by rw [e]))⟩
theorem grown_s5 (w : World) (B : Nat) (v0 v1 v2 v3 v4 : Value) : w.grownBy (((((w.setCell ⟨B, 0, none⟩ v0).setCell ⟨B, 1, none⟩ v1).setCell ⟨B, 2, none⟩ v2).setCell ⟨B, 3, none⟩ v3).setCell ⟨B, 4, none⟩ v4) (some B) :=
  ((((grownSet w B 0 v0).trans (grownSet _ B 1 v1)).trans (grownSet _ B 2 v2)).trans (grownSet _ B 3 v3)).trans (grownSet _ B 4 v4)
/-- the greatest one of those that have come. -/
def Met (rk : M → Int) (c : M → Int) (ss : List M) (G : T) : Prop := (ss = [] ∧ G = zeroT) ∨ (1 ≤ G.c ∧ G.m.ok = true ∧ G.m ∈ ss ∧ G.c = c G.m ∧ ∀ m ∈ ss, rk m ≤ rk G.m)
theorem Met.first {rk c : M → Int} {G : T} (h : Met rk c [] G) : G = zeroT := by
  rcases h with ⟨_, h⟩ | ⟨_, _, h, _⟩
  · exact h
  · simp at h
theorem Met.put {rk c : M → Int} {ss : List M} {G : T} {m : M} (h : Met rk c ss G) (hm : m.ok = true) (hc : 1 ≤ c m) (hg : G.c = 0 ∨ rk G.m < rk m) : Met rk c (ss ++ [m]) ⟨c m, m⟩ := by
  refine .inr ⟨hc, hm, by simp, rfl, fun x hx => ?_⟩
  rcases List.mem_append.1 hx with hx | hx
  · rcases h with ⟨rfl, _⟩ | ⟨h1, _, _, _, h5⟩
    · simp at hx
    · rcases hg with hg | hg
      · omega
      · have := h5 x hx
        show rk x ≤ rk m
        omega
  · simp at hx; rw [hx]; exact Int.le_refl _
theorem Met.keep {rk c : M → Int} {ss : List M} {G : T} {m : M} (h : Met rk c ss G) (h1 : 1 ≤ G.c) (hg : ¬ rk G.m < rk m) : Met rk c (ss ++ [m]) G := by
  rcases h with ⟨_, rfl⟩ | ⟨_, h0, h2, h3, h5⟩
  · exact absurd h1 (by decide)
  · refine .inr ⟨h1, h0, List.mem_append_left _ h2, h3, fun x hx => ?_⟩
    rcases List.mem_append.1 hx with hx | hx
    · exact h5 x hx
    · simp at hx; rw [hx]; omega
theorem Met.all {o : Int} {p : List T} (ho : 1 ≤ o ∧ o ≤ 3) (hp : okL p = true) (h0 : p.length ≠ 0) {ss : List M} {G : T} (h : Met (rkW o) (coef p) ss G) (hs : ∀ m : M, m.ok = true → (m ∈ ss ↔ coef p m ≠ 0)) : G = ldL o p := by
  have hl := ldL_mem (o := o) h0
  have hf := (okL_falls hp).2
  have hlm := hf.2 _ hl
  have hcl := mem_coefV hf hl
  have hin : (ldL o p).m ∈ ss := (hs _ hlm.1).2 hcl.2
  rcases h with ⟨rfl, _⟩ | ⟨h1, h2, h3, h4, h5⟩
  · simp at hin
  · have hc : coef p G.m ≠ 0 := (hs _ h2).1 h3
    obtain ⟨t, ht, he⟩ := List.mem_map.1 (coef_mem hc)
    have he : t.m = G.m := he
    have e1 := h5 _ hin
    have e2 := ldL_top ho hp h0 t ht
    rw [he] at e2
    have e3 : G.m = (ldL o p).m := rkW_inj _ _ h2 hlm.1 (Int.le_antisymm e2 e1)
    have e4 : G.c = (ldL o p).c := by rw [h4, e3, hcl.1]
    cases hG : G with | mk gc gm =>
    cases hL : ldL o p with | mk lc lm =>
    rw [hG, hL] at e3 e4
    simp at e3 e4
    rw [e3, e4]
theorem CollM.all {D : DataW Unit} {left : Lit → Bool} {ss : List M} {c : M → Int} (h : CollM D left ss) (hl : ∀ kl, left kl = false) (hat : ∀ m : M, m.ok = true → D.atKey (keyM m) (.lit (.int .i64 0)) = .lit (.int .i64 (c m)) ∧ (Maps.has D (keyM m) = true ↔ c m ≠ 0)) : ∀ m : M, m.ok = true → (m ∈ ss ↔ c m ≠ 0) := fun m hm => by
  rw [h.2.2 m hm, hl]
  simp [(hat m hm).2]
set_option maxRecDepth 100000 in
set_option maxHeartbeats 8000000 in
theorem greatest1 (w : World) (b n : Nat) (c : M → Int) (h : SumR w b n c) :
    Calls Tryz.prog 138 #[.map (some b), .func (.func 99) #[] #[]] w fun r w' => ∃ G : T, r = .returned (.agg #[.int .i64 G.c, .int .i64 G.m.x, .int .i64 G.m.y, .int .i64 G.m.d, .int .i64 G.m.e]) ∧ Below w.heap.size w w' ∧ ∃ ss, Met rkD c ss G ∧ ∀ m : M, m.ok = true → (m ∈ ss ↔ c m ≠ 0) := by
  obtain ⟨D, hown, hc, hat, hks⟩ := h
  have hblt := hown.lt
  have HKS := Hid.mk' hks
  have HAT := Hid.mk' hat
  have HC := Hid.mk' hc
  have HO2 := Hid.mk' ((hown.alloc (.cells #[.int .i64 0, .int .i64 0, .int .i64 0, .int .i64 0, .int .i64 0] 59)).alloc (.cells #[.int .i64 0, .int .i64 0, .int .i64 0, .int .i64 0, .int .i64 0] 59))
  have HB0 := Hid.mk' (bel_two w (.cells #[.int .i64 0, .int .i64 0, .int .i64 0, .int .i64 0, .int .i64 0] 59) (.cells #[.int .i64 0, .int .i64 0, .int .i64 0, .int .i64 0, .int .i64 0] 59))
  have HZ0 := Hid.mk' ((Own5.box w 59 zeroT).below (bel_one _ (.cells #[.int .i64 0, .int .i64 0, .int .i64 0, .int .i64 0, .int .i64 0] 59)))
  have HG0 := Hid.mk' (Own5.box (w.alloc (.cells #[.int .i64 0, .int .i64 0, .int .i64 0, .int .i64 0, .int .i64 0] 59)) 59 zeroT)
  clear hks hat hown hc
  go_enter Tryz.func138, Tryz.ntmps138
  go_wp2_with (first
    | (at_range; refine wpList_range_own _ rfl _ 152 rfl 57 147 lawM Tryz.underlying152 _ b n D rfl HO2.out ?_; intro w0 hrg0 hg0 hs0)
    | go_in)
  have hs2 : ((w.alloc (.cells #[.int .i64 0, .int .i64 0, .int .i64 0, .int .i64 0, .int .i64 0] 59)).alloc (.cells #[.int .i64 0, .int .i64 0, .int .i64 0, .int .i64 0, .int .i64 0] 59)).heap.size = w.heap.size + 2 := by simp
  have HB1 := Hid.mk' (bel_grown HB0.out hg0 (by simp))
  have HZ1 := Hid.mk' (HZ0.out.grown hg0 (by simp))
  have HG1 := Hid.mk' (HG0.out.grown hg0 (by simp))
  have HRG := Hid.mk' hrg0
  rw [hs2] at HRG
  simp only [World.size_alloc] at HG1
  clear HB0 HZ0 HG0 HO2 hrg0 hg0 hs0
  go_frame
  rw [hs2]
  go_loopw [6] (fun _ wr => ∃ (left : Lit → Bool) (cnt : Nat) (ss : List M) (G : T), wr.ranges Tryz.prog 57 (plainElem Tryz.prog 147) b (w.heap.size + 2) n D left cnt ∧ CollM D left ss ∧ Below w.heap.size w wr ∧ Own5 wr w.heap.size zeroT ∧ Own5 wr (w.heap.size + 1) G ∧ Met rkD c ss G)
    (fun _ wr => wr.rangeLeft b (w.heap.size + 2))
  case atStart => exact ⟨_, _, [], zeroT, HRG.out, CollM.start D, HB1.out, HZ1.out, HG1.out, .inl ⟨rfl, rfl⟩⟩
  case round =>
    obtain ⟨left, cnt, ss, G, hrg, hC, hB, hZ, hG, hM⟩ := hrel
    have HCO := Hid.mk' hC
    have HB := Hid.mk' hB
    have HZ := Hid.mk' hZ
    have HGG := Hid.mk' hG
    have HM := Hid.mk' hM
    have HRR := Hid.mk' hrg
    have hGl : w.heap.size + 1 < wr.heap.size := hG.1.lt
    clear hC hB hZ hG hM
    go_wp2_with (first
      | (at_next; refine wpList_next_ranges _ rfl _ rfl 57 lawM (plainElem Tryz.prog 147) (id : Value → Value) (Value.int .i64) (fun key kl hk => ⟨key, rfl⟩) (fun v y hv => by obtain ⟨c, rfl, _⟩ := plainElem_int_inv Tryz.underlying147 hv; exact ⟨c, rfl⟩) b (w.heap.size + 2) n _ _ _ rfl HRR.out ?_ ?_)
      | go_in)
    · intro hc0 hl0
      obtain ⟨⟨z0, z1, z2, z3, z4⟩, fz⟩ := HZ.out
      obtain ⟨⟨l0, l1, l2, l3, l4⟩, _⟩ := HGG.out
      simp only [zeroT] at z0 z1 z2 z3 z4
      have HAL := Hid.mk' (HCO.out.all hl0 HAT.out)
      clear hl0 hrg HZ HGG
      go_wp2
      refine bodyPost_ret (v := .agg #[.int .i64 G.c, .int .i64 G.m.x, .int .i64 G.m.y, .int .i64 G.m.d, .int .i64 G.m.e]) (by simp [results, Tryz.results138, go_sem, *]) rfl ⟨G, rfl, ?_, ss, HM.out, HAL.out⟩
      exact bel_s5 HB.out (Nat.le_refl _) _ _ _ _ _
    · intro x cv kl yd yp w2 cnt2 hkey hlk hv hatx hrg2 hlt hg2 hsz2 hen
      obtain ⟨m, hmo, rfl⟩ := HKS.out kl (has_true_of_atKey hatx)
      obtain rfl : x = enM m := lawM.inj hkey (keyOfM hmo)
      obtain rfl : cv = c m := by
        obtain ⟨c', e, e2, _⟩ := plainElem_int_inv Tryz.underlying147 hv
        cases e
        cases e2
        have h1 := (HAT.out m hmo).1
        rw [hatx] at h1
        simpa using h1
      have hcm : 1 ≤ c m := by
        have h1 := (HAT.out m hmo).2.1 (has_true_of_atKey hatx)
        have h2 := (HC.out m).1
        omega
      have hcm2 := (HC.out m).2
      have HRG2 := Hid.mk' (hrg2.alloc (.cells #[.int .i64 m.x, .int .i64 m.y, .int .i64 m.d, .int .i64 m.e] 57))
      have HLT := Hid.mk' (show cnt2 < wr.rangeLeft b (w.heap.size + 2) by rw [hrg.left_eq]; exact hlt)
      have HCO2 := Hid.mk' (HCO.out.step hmo hlk hatx)
      have hB2 := bel_grown HB.out hg2 (fun k e => by cases e; omega)
      have HB2 := Hid.mk' (hB2.alloc hB2.size (.cells #[.int .i64 m.x, .int .i64 m.y, .int .i64 m.d, .int .i64 m.e] 57))
      have HZ2 := Hid.mk' ((HZ.out.grown hg2 (by simp)).below (bel_one w2 (.cells #[.int .i64 m.x, .int .i64 m.y, .int .i64 m.d, .int .i64 m.e] 57)))
      have HG2 := Hid.mk' ((HGG.out.grown hg2 (by simp)).below (bel_one w2 (.cells #[.int .i64 m.x, .int .i64 m.y, .int .i64 m.d, .int .i64 m.e] 57)))
      have HM2 := Hid.mk' (M4.box w2 57 m.x m.y m.d m.e)
      have hsw : w.heap.size + 1 < w2.heap.size := by rw [hsz2]; exact hGl
      have hrw : w.heap.size + 2 < w2.heap.size := hrg2.lt
      have hbw : b < w2.heap.size := hrg2.owns.lt
      clear hlk hatx hrg hrg2 hlt hg2 hsz2 hkey hv hB2 HRR HB HZ HGG HCO hGl
      go_wp2_with fail
      generalize (w2.alloc (.cells #[.int .i64 m.x, .int .i64 m.y, .int .i64 m.d, .int .i64 m.e] 57)) = wq at HRG2 HB2 HZ2 HG2 HM2 ⊢
      have ne := Ext.there wq
      have s0 : ∀ u : Ext wq, u.1.cell? ⟨w2.heap.size, 0, none⟩ = some (.int .i64 m.x) := fun u => (u.cell HM2.out.lt).trans HM2.out.1
      have s1 : ∀ u : Ext wq, u.1.cell? ⟨w2.heap.size, 1, none⟩ = some (.int .i64 m.y) := fun u => (u.cell HM2.out.lt).trans HM2.out.2.1
      have s2 : ∀ u : Ext wq, u.1.cell? ⟨w2.heap.size, 2, none⟩ = some (.int .i64 m.d) := fun u => (u.cell HM2.out.lt).trans HM2.out.2.2.1
      have s3 : ∀ u : Ext wq, u.1.cell? ⟨w2.heap.size, 3, none⟩ = some (.int .i64 m.e) := fun u => (u.cell HM2.out.lt).trans HM2.out.2.2.2
      have t0 : ∀ u : Ext wq, u.1.cell? ⟨w.heap.size + 1, 0, none⟩ = some (.int .i64 G.c) := fun u => (u.cell HG2.out.1.lt).trans HG2.out.1.1
      have t1 : ∀ u : Ext wq, u.1.cell? ⟨w.heap.size + 1, 1, none⟩ = some (.int .i64 G.m.x) := fun u => (u.cell HG2.out.1.lt).trans HG2.out.1.2.1
      have t2 : ∀ u : Ext wq, u.1.cell? ⟨w.heap.size + 1, 2, none⟩ = some (.int .i64 G.m.y) := fun u => (u.cell HG2.out.1.lt).trans HG2.out.1.2.2.1
      have t3 : ∀ u : Ext wq, u.1.cell? ⟨w.heap.size + 1, 3, none⟩ = some (.int .i64 G.m.d) := fun u => (u.cell HG2.out.1.lt).trans HG2.out.1.2.2.2.1
      have t4 : ∀ u : Ext wq, u.1.cell? ⟨w.heap.size + 1, 4, none⟩ = some (.int .i64 G.m.e) := fun u => (u.cell HG2.out.1.lt).trans HG2.out.1.2.2.2.2
      by_cases hG0 : G.c = 0
      · have hgz : ((G.c : Int) == 0) = true := by simpa using hG0
        have HMT := Hid.mk' (HM.out.put hmo hcm (.inl hG0))
        clear HM hG0
        refine wp_region_ext (by kernel_rfl) (by kernel_rfl) ?_
        repeat (go_big_quiet_step (fail))
        refine wpQuiet_nil ?_
        rintro _ ⟨v, rfl⟩
        have HBV := Hid.mk' (HB2.out.trans (v.2.mono HB2.out.size))
        have HZV := Hid.mk' (HZ2.out.below v.2)
        have HGV := Hid.mk' (HG2.out.below v.2)
        have HMV := Hid.mk' (HM2.out.below v.2)
        have HRV := Hid.mk' (HRG2.out.kept (below_grown v.2 none) (by simp) (by simp))
        obtain ⟨u, hu⟩ : ∃ u, v.1 = u := ⟨_, rfl⟩
        rw [hu] at HBV HZV HGV HMV HRV ⊢
        clear hu s0 s1 s2 s3 t0 t1 t2 t3 t4 ne v
        obtain ⟨q0, q1, q2, q3⟩ := HMV.out
        obtain ⟨⟨l0, l1, l2, l3, l4⟩, lz⟩ := HGV.out
        have HRW := Hid.mk' (HRV.out.kept (grown_s5 u (w.heap.size + 1) (.int .i64 (c m)) (.int .i64 m.x) (.int .i64 m.y) (.int .i64 m.d) (.int .i64 m.e)) (by simp; omega) (by simp))
        clear HRV
        go_wp2
        go_roundw
        case rel =>
          refine ⟨_, cnt2, ss ++ [m], ⟨c m, m⟩, HRW.out, HCO2.out, bel_s5 HBV.out (by omega) _ _ _ _ _, HZV.out.far (by omega), ⟨⟨by go_simp, by go_simp, by go_simp, by go_simp, by go_simp⟩, fun j => by go_simp⟩, HMT.out⟩
        case measure => rw [HRW.out.left_eq]; exact HLT.out
      · have hgz : ((G.c : Int) == 0) = false := by simpa using hG0
        obtain ⟨hg1, hgo⟩ : 1 ≤ G.c ∧ G.m.ok = true := by
          rcases HM.out with ⟨_, e⟩ | ⟨e1, e2, _⟩
          · rw [e] at hG0; exact absurd rfl hG0
          · exact ⟨e1, e2⟩
        by_cases hq : rkD G.m < rkD m
        · have dq : decide (rkD ⟨G.m.x, G.m.y, G.m.d, G.m.e⟩ < rkD ⟨m.x, m.y, m.d, m.e⟩) = true := decide_eq_true hq
          have HMT := Hid.mk' (HM.out.put hmo hcm (.inr hq))
          clear HM hG0 hq
          refine wp_region_ext (by kernel_rfl) (by kernel_rfl) ?_
          repeat (go_big_quiet_step (first | (go_at_call 99; exact ext_grows (rankDegI _ _ _ _ _ hmo)) | (go_at_call 99; exact ext_grows (rankDegI _ _ _ _ _ hgo))))
          refine wpQuiet_nil ?_
          rintro _ ⟨v, rfl⟩
          have HBV := Hid.mk' (HB2.out.trans (v.2.mono HB2.out.size))
          have HZV := Hid.mk' (HZ2.out.below v.2)
          have HGV := Hid.mk' (HG2.out.below v.2)
          have HMV := Hid.mk' (HM2.out.below v.2)
          have HRV := Hid.mk' (HRG2.out.kept (below_grown v.2 none) (by simp) (by simp))
          obtain ⟨u, hu⟩ : ∃ u, v.1 = u := ⟨_, rfl⟩
          rw [hu] at HBV HZV HGV HMV HRV ⊢
          clear hu s0 s1 s2 s3 t0 t1 t2 t3 t4 ne v
          obtain ⟨q0, q1, q2, q3⟩ := HMV.out
          obtain ⟨⟨l0, l1, l2, l3, l4⟩, lz⟩ := HGV.out
          have HRW := Hid.mk' (HRV.out.kept (grown_s5 u (w.heap.size + 1) (.int .i64 (c m)) (.int .i64 m.x) (.int .i64 m.y) (.int .i64 m.d) (.int .i64 m.e)) (by simp; omega) (by simp))
          clear HRV
          go_wp2
          go_roundw
          case rel =>
            refine ⟨_, cnt2, ss ++ [m], ⟨c m, m⟩, HRW.out, HCO2.out, bel_s5 HBV.out (by omega) _ _ _ _ _, HZV.out.far (by omega), ⟨⟨by go_simp, by go_simp, by go_simp, by go_simp, by go_simp⟩, fun j => by go_simp⟩, HMT.out⟩
          case measure => rw [HRW.out.left_eq]; exact HLT.out
        · have dq : decide (rkD ⟨G.m.x, G.m.y, G.m.d, G.m.e⟩ < rkD ⟨m.x, m.y, m.d, m.e⟩) = false := decide_eq_false hq
          have HMT := Hid.mk' (HM.out.keep hg1 hq)
          clear HM hG0 hq
          refine wp_region_ext (by kernel_rfl) (by kernel_rfl) ?_
          repeat (go_big_quiet_step (first | (go_at_call 99; exact ext_grows (rankDegI _ _ _ _ _ hmo)) | (go_at_call 99; exact ext_grows (rankDegI _ _ _ _ _ hgo))))
          refine wpQuiet_nil ?_
          rintro _ ⟨v, rfl⟩
          have HBV := Hid.mk' (HB2.out.trans (v.2.mono HB2.out.size))
          have HZV := Hid.mk' (HZ2.out.below v.2)
          have HGV := Hid.mk' (HG2.out.below v.2)
          have HRV := Hid.mk' (HRG2.out.kept (below_grown v.2 none) (by simp) (by simp))
          obtain ⟨u, hu⟩ : ∃ u, v.1 = u := ⟨_, rfl⟩
          rw [hu] at HBV HZV HGV HRV ⊢
          clear hu s0 s1 s2 s3 t0 t1 t2 t3 t4 ne v
          go_wp2
          go_roundw
          case rel => exact ⟨_, cnt2, ss ++ [m], G, HRV.out, HCO2.out, HBV.out, HZV.out, HGV.out, HMT.out⟩
          case measure => rw [HRV.out.left_eq]; exact HLT.out
set_option maxRecDepth 100000 in
set_option maxHeartbeats 8000000 in
theorem greatest2 (w : World) (b n : Nat) (c : M → Int) (h : SumR w b n c) :
    Calls Tryz.prog 138 #[.map (some b), .func (.func 100) #[] #[]] w fun r w' => ∃ G : T, r = .returned (.agg #[.int .i64 G.c, .int .i64 G.m.x, .int .i64 G.m.y, .int .i64 G.m.d, .int .i64 G.m.e]) ∧ Below w.heap.size w w' ∧ ∃ ss, Met rkL c ss G ∧ ∀ m : M, m.ok = true → (m ∈ ss ↔ c m ≠ 0) := by
  obtain ⟨D, hown, hc, hat, hks⟩ := h
  have hblt := hown.lt
  have HKS := Hid.mk' hks
  have HAT := Hid.mk' hat
  have HC := Hid.mk' hc
  have HO2 := Hid.mk' ((hown.alloc (.cells #[.int .i64 0, .int .i64 0, .int .i64 0, .int .i64 0, .int .i64 0] 59)).alloc (.cells #[.int .i64 0, .int .i64 0, .int .i64 0, .int .i64 0, .int .i64 0] 59))
  have HB0 := Hid.mk' (bel_two w (.cells #[.int .i64 0, .int .i64 0, .int .i64 0, .int .i64 0, .int .i64 0] 59) (.cells #[.int .i64 0, .int .i64 0, .int .i64 0, .int .i64 0, .int .i64 0] 59))
  have HZ0 := Hid.mk' ((Own5.box w 59 zeroT).below (bel_one _ (.cells #[.int .i64 0, .int .i64 0, .int .i64 0, .int .i64 0, .int .i64 0] 59)))
  have HG0 := Hid.mk' (Own5.box (w.alloc (.cells #[.int .i64 0, .int .i64 0, .int .i64 0, .int .i64 0, .int .i64 0] 59)) 59 zeroT)
  clear hks hat hown hc
  go_enter Tryz.func138, Tryz.ntmps138
  go_wp2_with (first
    | (at_range; refine wpList_range_own _ rfl _ 152 rfl 57 147 lawM Tryz.underlying152 _ b n D rfl HO2.out ?_; intro w0 hrg0 hg0 hs0)
    | go_in)
  have hs2 : ((w.alloc (.cells #[.int .i64 0, .int .i64 0, .int .i64 0, .int .i64 0, .int .i64 0] 59)).alloc (.cells #[.int .i64 0, .int .i64 0, .int .i64 0, .int .i64 0, .int .i64 0] 59)).heap.size = w.heap.size + 2 := by simp
  have HB1 := Hid.mk' (bel_grown HB0.out hg0 (by simp))
  have HZ1 := Hid.mk' (HZ0.out.grown hg0 (by simp))
  have HG1 := Hid.mk' (HG0.out.grown hg0 (by simp))
  have HRG := Hid.mk' hrg0
  rw [hs2] at HRG
  simp only [World.size_alloc] at HG1
  clear HB0 HZ0 HG0 HO2 hrg0 hg0 hs0
  go_frame
  rw [hs2]
  go_loopw [6] (fun _ wr => ∃ (left : Lit → Bool) (cnt : Nat) (ss : List M) (G : T), wr.ranges Tryz.prog 57 (plainElem Tryz.prog 147) b (w.heap.size + 2) n D left cnt ∧ CollM D left ss ∧ Below w.heap.size w wr ∧ Own5 wr w.heap.size zeroT ∧ Own5 wr (w.heap.size + 1) G ∧ Met rkL c ss G)
    (fun _ wr => wr.rangeLeft b (w.heap.size + 2))
  case atStart => exact ⟨_, _, [], zeroT, HRG.out, CollM.start D, HB1.out, HZ1.out, HG1.out, .inl ⟨rfl, rfl⟩⟩
  case round =>
    obtain ⟨left, cnt, ss, G, hrg, hC, hB, hZ, hG, hM⟩ := hrel
    have HCO := Hid.mk' hC
    have HB := Hid.mk' hB
    have HZ := Hid.mk' hZ
    have HGG := Hid.mk' hG
    have HM := Hid.mk' hM
    have HRR := Hid.mk' hrg
    have hGl : w.heap.size + 1 < wr.heap.size := hG.1.lt
    clear hC hB hZ hG hM
    go_wp2_with (first
      | (at_next; refine wpList_next_ranges _ rfl _ rfl 57 lawM (plainElem Tryz.prog 147) (id : Value → Value) (Value.int .i64) (fun key kl hk => ⟨key, rfl⟩) (fun v y hv => by obtain ⟨c, rfl, _⟩ := plainElem_int_inv Tryz.underlying147 hv; exact ⟨c, rfl⟩) b (w.heap.size + 2) n _ _ _ rfl HRR.out ?_ ?_)
      | go_in)
    · intro hc0 hl0
      obtain ⟨⟨z0, z1, z2, z3, z4⟩, fz⟩ := HZ.out
      obtain ⟨⟨l0, l1, l2, l3, l4⟩, _⟩ := HGG.out
      simp only [zeroT] at z0 z1 z2 z3 z4
      have HAL := Hid.mk' (HCO.out.all hl0 HAT.out)
      clear hl0 hrg HZ HGG
      go_wp2
      refine bodyPost_ret (v := .agg #[.int .i64 G.c, .int .i64 G.m.x, .int .i64 G.m.y, .int .i64 G.m.d, .int .i64 G.m.e]) (by simp [results, Tryz.results138, go_sem, *]) rfl ⟨G, rfl, ?_, ss, HM.out, HAL.out⟩
      exact bel_s5 HB.out (Nat.le_refl _) _ _ _ _ _
    · intro x cv kl yd yp w2 cnt2 hkey hlk hv hatx hrg2 hlt hg2 hsz2 hen
      obtain ⟨m, hmo, rfl⟩ := HKS.out kl (has_true_of_atKey hatx)
      obtain rfl : x = enM m := lawM.inj hkey (keyOfM hmo)
      obtain rfl : cv = c m := by
        obtain ⟨c', e, e2, _⟩ := plainElem_int_inv Tryz.underlying147 hv
        cases e
        cases e2
        have h1 := (HAT.out m hmo).1
        rw [hatx] at h1
        simpa using h1
      have hcm : 1 ≤ c m := by
        have h1 := (HAT.out m hmo).2.1 (has_true_of_atKey hatx)
        have h2 := (HC.out m).1
        omega
      have hcm2 := (HC.out m).2
      have HRG2 := Hid.mk' (hrg2.alloc (.cells #[.int .i64 m.x, .int .i64 m.y, .int .i64 m.d, .int .i64 m.e] 57))
      have HLT := Hid.mk' (show cnt2 < wr.rangeLeft b (w.heap.size + 2) by rw [hrg.left_eq]; exact hlt)
      have HCO2 := Hid.mk' (HCO.out.step hmo hlk hatx)
      have hB2 := bel_grown HB.out hg2 (fun k e => by cases e; omega)
      have HB2 := Hid.mk' (hB2.alloc hB2.size (.cells #[.int .i64 m.x, .int .i64 m.y, .int .i64 m.d, .int .i64 m.e] 57))
      have HZ2 := Hid.mk' ((HZ.out.grown hg2 (by simp)).below (bel_one w2 (.cells #[.int .i64 m.x, .int .i64 m.y, .int .i64 m.d, .int .i64 m.e] 57)))
      have HG2 := Hid.mk' ((HGG.out.grown hg2 (by simp)).below (bel_one w2 (.cells #[.int .i64 m.x, .int .i64 m.y, .int .i64 m.d, .int .i64 m.e] 57)))
      have HM2 := Hid.mk' (M4.box w2 57 m.x m.y m.d m.e)
      have hsw : w.heap.size + 1 < w2.heap.size := by rw [hsz2]; exact hGl
      have hrw : w.heap.size + 2 < w2.heap.size := hrg2.lt
      have hbw : b < w2.heap.size := hrg2.owns.lt
      clear hlk hatx hrg hrg2 hlt hg2 hsz2 hkey hv hB2 HRR HB HZ HGG HCO hGl
      go_wp2_with fail
      generalize (w2.alloc (.cells #[.int .i64 m.x, .int .i64 m.y, .int .i64 m.d, .int .i64 m.e] 57)) = wq at HRG2 HB2 HZ2 HG2 HM2 ⊢
      have ne := Ext.there wq
      have s0 : ∀ u : Ext wq, u.1.cell? ⟨w2.heap.size, 0, none⟩ = some (.int .i64 m.x) := fun u => (u.cell HM2.out.lt).trans HM2.out.1
      have s1 : ∀ u : Ext wq, u.1.cell? ⟨w2.heap.size, 1, none⟩ = some (.int .i64 m.y) := fun u => (u.cell HM2.out.lt).trans HM2.out.2.1
      have s2 : ∀ u : Ext wq, u.1.cell? ⟨w2.heap.size, 2, none⟩ = some (.int .i64 m.d) := fun u => (u.cell HM2.out.lt).trans HM2.out.2.2.1
      have s3 : ∀ u : Ext wq, u.1.cell? ⟨w2.heap.size, 3, none⟩ = some (.int .i64 m.e) := fun u => (u.cell HM2.out.lt).trans HM2.out.2.2.2
      have t0 : ∀ u : Ext wq, u.1.cell? ⟨w.heap.size + 1, 0, none⟩ = some (.int .i64 G.c) := fun u => (u.cell HG2.out.1.lt).trans HG2.out.1.1
      have t1 : ∀ u : Ext wq, u.1.cell? ⟨w.heap.size + 1, 1, none⟩ = some (.int .i64 G.m.x) := fun u => (u.cell HG2.out.1.lt).trans HG2.out.1.2.1
      have t2 : ∀ u : Ext wq, u.1.cell? ⟨w.heap.size + 1, 2, none⟩ = some (.int .i64 G.m.y) := fun u => (u.cell HG2.out.1.lt).trans HG2.out.1.2.2.1
      have t3 : ∀ u : Ext wq, u.1.cell? ⟨w.heap.size + 1, 3, none⟩ = some (.int .i64 G.m.d) := fun u => (u.cell HG2.out.1.lt).trans HG2.out.1.2.2.2.1
      have t4 : ∀ u : Ext wq, u.1.cell? ⟨w.heap.size + 1, 4, none⟩ = some (.int .i64 G.m.e) := fun u => (u.cell HG2.out.1.lt).trans HG2.out.1.2.2.2.2
      by_cases hG0 : G.c = 0
      · have hgz : ((G.c : Int) == 0) = true := by simpa using hG0
        have HMT := Hid.mk' (HM.out.put hmo hcm (.inl hG0))
        clear HM hG0
        refine wp_region_ext (by kernel_rfl) (by kernel_rfl) ?_
        repeat (go_big_quiet_step (fail))
        refine wpQuiet_nil ?_
        rintro _ ⟨v, rfl⟩
        have HBV := Hid.mk' (HB2.out.trans (v.2.mono HB2.out.size))
        have HZV := Hid.mk' (HZ2.out.below v.2)
        have HGV := Hid.mk' (HG2.out.below v.2)
        have HMV := Hid.mk' (HM2.out.below v.2)
        have HRV := Hid.mk' (HRG2.out.kept (below_grown v.2 none) (by simp) (by simp))
        obtain ⟨u, hu⟩ : ∃ u, v.1 = u := ⟨_, rfl⟩
        rw [hu] at HBV HZV HGV HMV HRV ⊢
        clear hu s0 s1 s2 s3 t0 t1 t2 t3 t4 ne v
        obtain ⟨q0, q1, q2, q3⟩ := HMV.out
        obtain ⟨⟨l0, l1, l2, l3, l4⟩, lz⟩ := HGV.out
        have HRW := Hid.mk' (HRV.out.kept (grown_s5 u (w.heap.size + 1) (.int .i64 (c m)) (.int .i64 m.x) (.int .i64 m.y) (.int .i64 m.d) (.int .i64 m.e)) (by simp; omega) (by simp))
        clear HRV
        go_wp2
        go_roundw
        case rel =>
          refine ⟨_, cnt2, ss ++ [m], ⟨c m, m⟩, HRW.out, HCO2.out, bel_s5 HBV.out (by omega) _ _ _ _ _, HZV.out.far (by omega), ⟨⟨by go_simp, by go_simp, by go_simp, by go_simp, by go_simp⟩, fun j => by go_simp⟩, HMT.out⟩
        case measure => rw [HRW.out.left_eq]; exact HLT.out
      · have hgz : ((G.c : Int) == 0) = false := by simpa using hG0
        obtain ⟨hg1, hgo⟩ : 1 ≤ G.c ∧ G.m.ok = true := by
          rcases HM.out with ⟨_, e⟩ | ⟨e1, e2, _⟩
          · rw [e] at hG0; exact absurd rfl hG0
          · exact ⟨e1, e2⟩
        by_cases hq : rkL G.m < rkL m
        · have dq : decide (rkL ⟨G.m.x, G.m.y, G.m.d, G.m.e⟩ < rkL ⟨m.x, m.y, m.d, m.e⟩) = true := decide_eq_true hq
          have HMT := Hid.mk' (HM.out.put hmo hcm (.inr hq))
          clear HM hG0 hq
          refine wp_region_ext (by kernel_rfl) (by kernel_rfl) ?_
          repeat (go_big_quiet_step (first | (go_at_call 100; exact ext_grows (rankLexI _ _ _ _ _ hmo)) | (go_at_call 100; exact ext_grows (rankLexI _ _ _ _ _ hgo))))
          refine wpQuiet_nil ?_
          rintro _ ⟨v, rfl⟩
          have HBV := Hid.mk' (HB2.out.trans (v.2.mono HB2.out.size))
          have HZV := Hid.mk' (HZ2.out.below v.2)
          have HGV := Hid.mk' (HG2.out.below v.2)
          have HMV := Hid.mk' (HM2.out.below v.2)
          have HRV := Hid.mk' (HRG2.out.kept (below_grown v.2 none) (by simp) (by simp))
          obtain ⟨u, hu⟩ : ∃ u, v.1 = u := ⟨_, rfl⟩
          rw [hu] at HBV HZV HGV HMV HRV ⊢
          clear hu s0 s1 s2 s3 t0 t1 t2 t3 t4 ne v
          obtain ⟨q0, q1, q2, q3⟩ := HMV.out
          obtain ⟨⟨l0, l1, l2, l3, l4⟩, lz⟩ := HGV.out
          have HRW := Hid.mk' (HRV.out.kept (grown_s5 u (w.heap.size + 1) (.int .i64 (c m)) (.int .i64 m.x) (.int .i64 m.y) (.int .i64 m.d) (.int .i64 m.e)) (by simp; omega) (by simp))
          clear HRV
          go_wp2
          go_roundw
          case rel =>
            refine ⟨_, cnt2, ss ++ [m], ⟨c m, m⟩, HRW.out, HCO2.out, bel_s5 HBV.out (by omega) _ _ _ _ _, HZV.out.far (by omega), ⟨⟨by go_simp, by go_simp, by go_simp, by go_simp, by go_simp⟩, fun j => by go_simp⟩, HMT.out⟩
          case measure => rw [HRW.out.left_eq]; exact HLT.out
        · have dq : decide (rkL ⟨G.m.x, G.m.y, G.m.d, G.m.e⟩ < rkL ⟨m.x, m.y, m.d, m.e⟩) = false := decide_eq_false hq
          have HMT := Hid.mk' (HM.out.keep hg1 hq)
          clear HM hG0 hq
          refine wp_region_ext (by kernel_rfl) (by kernel_rfl) ?_
          repeat (go_big_quiet_step (first | (go_at_call 100; exact ext_grows (rankLexI _ _ _ _ _ hmo)) | (go_at_call 100; exact ext_grows (rankLexI _ _ _ _ _ hgo))))
          refine wpQuiet_nil ?_
          rintro _ ⟨v, rfl⟩
          have HBV := Hid.mk' (HB2.out.trans (v.2.mono HB2.out.size))
          have HZV := Hid.mk' (HZ2.out.below v.2)
          have HGV := Hid.mk' (HG2.out.below v.2)
          have HRV := Hid.mk' (HRG2.out.kept (below_grown v.2 none) (by simp) (by simp))
          obtain ⟨u, hu⟩ : ∃ u, v.1 = u := ⟨_, rfl⟩
          rw [hu] at HBV HZV HGV HRV ⊢
          clear hu s0 s1 s2 s3 t0 t1 t2 t3 t4 ne v
          go_wp2
          go_roundw
          case rel => exact ⟨_, cnt2, ss ++ [m], G, HRV.out, HCO2.out, HBV.out, HZV.out, HGV.out, HMT.out⟩
          case measure => rw [HRV.out.left_eq]; exact HLT.out
--@END
set_option maxRecDepth 100000 in
set_option maxHeartbeats 8000000 in
theorem greatest3 (w : World) (b n : Nat) (c : M → Int) (h : SumR w b n c) :
    Calls Tryz.prog 138 #[.map (some b), .func (.func 101) #[] #[]] w fun r w' => ∃ G : T, r = .returned (.agg #[.int .i64 G.c, .int .i64 G.m.x, .int .i64 G.m.y, .int .i64 G.m.d, .int .i64 G.m.e]) ∧ Below w.heap.size w w' ∧ ∃ ss, Met rkO c ss G ∧ ∀ m : M, m.ok = true → (m ∈ ss ↔ c m ≠ 0) := by
  obtain ⟨D, hown, hc, hat, hks⟩ := h
  have hblt := hown.lt
  have HKS := Hid.mk' hks
  have HAT := Hid.mk' hat
  have HC := Hid.mk' hc
  have HO2 := Hid.mk' ((hown.alloc (.cells #[.int .i64 0, .int .i64 0, .int .i64 0, .int .i64 0, .int .i64 0] 59)).alloc (.cells #[.int .i64 0, .int .i64 0, .int .i64 0, .int .i64 0, .int .i64 0] 59))
  have HB0 := Hid.mk' (bel_two w (.cells #[.int .i64 0, .int .i64 0, .int .i64 0, .int .i64 0, .int .i64 0] 59) (.cells #[.int .i64 0, .int .i64 0, .int .i64 0, .int .i64 0, .int .i64 0] 59))
  have HZ0 := Hid.mk' ((Own5.box w 59 zeroT).below (bel_one _ (.cells #[.int .i64 0, .int .i64 0, .int .i64 0, .int .i64 0, .int .i64 0] 59)))
  have HG0 := Hid.mk' (Own5.box (w.alloc (.cells #[.int .i64 0, .int .i64 0, .int .i64 0, .int .i64 0, .int .i64 0] 59)) 59 zeroT)
  clear hks hat hown hc
  go_enter Tryz.func138, Tryz.ntmps138
  go_wp2_with (first
    | (at_range; refine wpList_range_own _ rfl _ 152 rfl 57 147 lawM Tryz.underlying152 _ b n D rfl HO2.out ?_; intro w0 hrg0 hg0 hs0)
    | go_in)
  have hs2 : ((w.alloc (.cells #[.int .i64 0, .int .i64 0, .int .i64 0, .int .i64 0, .int .i64 0] 59)).alloc (.cells #[.int .i64 0, .int .i64 0, .int .i64 0, .int .i64 0, .int .i64 0] 59)).heap.size = w.heap.size + 2 := by simp
  have HB1 := Hid.mk' (bel_grown HB0.out hg0 (by simp))
  have HZ1 := Hid.mk' (HZ0.out.grown hg0 (by simp))
  have HG1 := Hid.mk' (HG0.out.grown hg0 (by simp))
  have HRG := Hid.mk' hrg0
  rw [hs2] at HRG
  simp only [World.size_alloc] at HG1
  clear HB0 HZ0 HG0 HO2 hrg0 hg0 hs0
  go_frame
  rw [hs2]
  go_loopw [6] (fun _ wr => ∃ (left : Lit → Bool) (cnt : Nat) (ss : List M) (G : T), wr.ranges Tryz.prog 57 (plainElem Tryz.prog 147) b (w.heap.size + 2) n D left cnt ∧ CollM D left ss ∧ Below w.heap.size w wr ∧ Own5 wr w.heap.size zeroT ∧ Own5 wr (w.heap.size + 1) G ∧ Met rkO c ss G)
    (fun _ wr => wr.rangeLeft b (w.heap.size + 2))
  case atStart => exact ⟨_, _, [], zeroT, HRG.out, CollM.start D, HB1.out, HZ1.out, HG1.out, .inl ⟨rfl, rfl⟩⟩
  case round =>
    obtain ⟨left, cnt, ss, G, hrg, hC, hB, hZ, hG, hM⟩ := hrel
    have HCO := Hid.mk' hC
    have HB := Hid.mk' hB
    have HZ := Hid.mk' hZ
    have HGG := Hid.mk' hG
    have HM := Hid.mk' hM
    have HRR := Hid.mk' hrg
    have hGl : w.heap.size + 1 < wr.heap.size := hG.1.lt
    clear hC hB hZ hG hM
    go_wp2_with (first
      | (at_next; refine wpList_next_ranges _ rfl _ rfl 57 lawM (plainElem Tryz.prog 147) (id : Value → Value) (Value.int .i64) (fun key kl hk => ⟨key, rfl⟩) (fun v y hv => by obtain ⟨c, rfl, _⟩ := plainElem_int_inv Tryz.underlying147 hv; exact ⟨c, rfl⟩) b (w.heap.size + 2) n _ _ _ rfl HRR.out ?_ ?_)
      | go_in)
    · intro hc0 hl0
      obtain ⟨⟨z0, z1, z2, z3, z4⟩, fz⟩ := HZ.out
      obtain ⟨⟨l0, l1, l2, l3, l4⟩, _⟩ := HGG.out
      simp only [zeroT] at z0 z1 z2 z3 z4
      have HAL := Hid.mk' (HCO.out.all hl0 HAT.out)
      clear hl0 hrg HZ HGG
      go_wp2
      refine bodyPost_ret (v := .agg #[.int .i64 G.c, .int .i64 G.m.x, .int .i64 G.m.y, .int .i64 G.m.d, .int .i64 G.m.e]) (by simp [results, Tryz.results138, go_sem, *]) rfl ⟨G, rfl, ?_, ss, HM.out, HAL.out⟩
      exact bel_s5 HB.out (Nat.le_refl _) _ _ _ _ _
    · intro x cv kl yd yp w2 cnt2 hkey hlk hv hatx hrg2 hlt hg2 hsz2 hen
      obtain ⟨m, hmo, rfl⟩ := HKS.out kl (has_true_of_atKey hatx)
      obtain rfl : x = enM m := lawM.inj hkey (keyOfM hmo)
      obtain rfl : cv = c m := by
        obtain ⟨c', e, e2, _⟩ := plainElem_int_inv Tryz.underlying147 hv
        cases e
        cases e2
        have h1 := (HAT.out m hmo).1
        rw [hatx] at h1
        simpa using h1
      have hcm : 1 ≤ c m := by
        have h1 := (HAT.out m hmo).2.1 (has_true_of_atKey hatx)
        have h2 := (HC.out m).1
        omega
      have hcm2 := (HC.out m).2
      have HRG2 := Hid.mk' (hrg2.alloc (.cells #[.int .i64 m.x, .int .i64 m.y, .int .i64 m.d, .int .i64 m.e] 57))
      have HLT := Hid.mk' (show cnt2 < wr.rangeLeft b (w.heap.size + 2) by rw [hrg.left_eq]; exact hlt)
      have HCO2 := Hid.mk' (HCO.out.step hmo hlk hatx)
      have hB2 := bel_grown HB.out hg2 (fun k e => by cases e; omega)
      have HB2 := Hid.mk' (hB2.alloc hB2.size (.cells #[.int .i64 m.x, .int .i64 m.y, .int .i64 m.d, .int .i64 m.e] 57))
      have HZ2 := Hid.mk' ((HZ.out.grown hg2 (by simp)).below (bel_one w2 (.cells #[.int .i64 m.x, .int .i64 m.y, .int .i64 m.d, .int .i64 m.e] 57)))
      have HG2 := Hid.mk' ((HGG.out.grown hg2 (by simp)).below (bel_one w2 (.cells #[.int .i64 m.x, .int .i64 m.y, .int .i64 m.d, .int .i64 m.e] 57)))
      have HM2 := Hid.mk' (M4.box w2 57 m.x m.y m.d m.e)
      have hsw : w.heap.size + 1 < w2.heap.size := by rw [hsz2]; exact hGl
      have hrw : w.heap.size + 2 < w2.heap.size := hrg2.lt
      have hbw : b < w2.heap.size := hrg2.owns.lt
      clear hlk hatx hrg hrg2 hlt hg2 hsz2 hkey hv hB2 HRR HB HZ HGG HCO hGl
      go_wp2_with fail
      generalize (w2.alloc (.cells #[.int .i64 m.x, .int .i64 m.y, .int .i64 m.d, .int .i64 m.e] 57)) = wq at HRG2 HB2 HZ2 HG2 HM2 ⊢
      have ne := Ext.there wq
      have s0 : ∀ u : Ext wq, u.1.cell? ⟨w2.heap.size, 0, none⟩ = some (.int .i64 m.x) := fun u => (u.cell HM2.out.lt).trans HM2.out.1
      have s1 : ∀ u : Ext wq, u.1.cell? ⟨w2.heap.size, 1, none⟩ = some (.int .i64 m.y) := fun u => (u.cell HM2.out.lt).trans HM2.out.2.1
      have s2 : ∀ u : Ext wq, u.1.cell? ⟨w2.heap.size, 2, none⟩ = some (.int .i64 m.d) := fun u => (u.cell HM2.out.lt).trans HM2.out.2.2.1
      have s3 : ∀ u : Ext wq, u.1.cell? ⟨w2.heap.size, 3, none⟩ = some (.int .i64 m.e) := fun u => (u.cell HM2.out.lt).trans HM2.out.2.2.2
      have t0 : ∀ u : Ext wq, u.1.cell? ⟨w.heap.size + 1, 0, none⟩ = some (.int .i64 G.c) := fun u => (u.cell HG2.out.1.lt).trans HG2.out.1.1
      have t1 : ∀ u : Ext wq, u.1.cell? ⟨w.heap.size + 1, 1, none⟩ = some (.int .i64 G.m.x) := fun u => (u.cell HG2.out.1.lt).trans HG2.out.1.2.1
      have t2 : ∀ u : Ext wq, u.1.cell? ⟨w.heap.size + 1, 2, none⟩ = some (.int .i64 G.m.y) := fun u => (u.cell HG2.out.1.lt).trans HG2.out.1.2.2.1
      have t3 : ∀ u : Ext wq, u.1.cell? ⟨w.heap.size + 1, 3, none⟩ = some (.int .i64 G.m.d) := fun u => (u.cell HG2.out.1.lt).trans HG2.out.1.2.2.2.1
      have t4 : ∀ u : Ext wq, u.1.cell? ⟨w.heap.size + 1, 4, none⟩ = some (.int .i64 G.m.e) := fun u => (u.cell HG2.out.1.lt).trans HG2.out.1.2.2.2.2
      by_cases hG0 : G.c = 0
      · have hgz : ((G.c : Int) == 0) = true := by simpa using hG0
        have HMT := Hid.mk' (HM.out.put hmo hcm (.inl hG0))
        clear HM hG0
        refine wp_region_ext (by kernel_rfl) (by kernel_rfl) ?_
        repeat (go_big_quiet_step (fail))
        refine wpQuiet_nil ?_
        rintro _ ⟨v, rfl⟩
        have HBV := Hid.mk' (HB2.out.trans (v.2.mono HB2.out.size))
        have HZV := Hid.mk' (HZ2.out.below v.2)
        have HGV := Hid.mk' (HG2.out.below v.2)
        have HMV := Hid.mk' (HM2.out.below v.2)
        have HRV := Hid.mk' (HRG2.out.kept (below_grown v.2 none) (by simp) (by simp))
        obtain ⟨u, hu⟩ : ∃ u, v.1 = u := ⟨_, rfl⟩
        rw [hu] at HBV HZV HGV HMV HRV ⊢
        clear hu s0 s1 s2 s3 t0 t1 t2 t3 t4 ne v
        obtain ⟨q0, q1, q2, q3⟩ := HMV.out
        obtain ⟨⟨l0, l1, l2, l3, l4⟩, lz⟩ := HGV.out
        have HRW := Hid.mk' (HRV.out.kept (grown_s5 u (w.heap.size + 1) (.int .i64 (c m)) (.int .i64 m.x) (.int .i64 m.y) (.int .i64 m.d) (.int .i64 m.e)) (by simp; omega) (by simp))
        clear HRV
        go_wp2
        go_roundw
        case rel =>
          refine ⟨_, cnt2, ss ++ [m], ⟨c m, m⟩, HRW.out, HCO2.out, bel_s5 HBV.out (by omega) _ _ _ _ _, HZV.out.far (by omega), ⟨⟨by go_simp, by go_simp, by go_simp, by go_simp, by go_simp⟩, fun j => by go_simp⟩, HMT.out⟩
        case measure => rw [HRW.out.left_eq]; exact HLT.out
      · have hgz : ((G.c : Int) == 0) = false := by simpa using hG0
        obtain ⟨hg1, hgo⟩ : 1 ≤ G.c ∧ G.m.ok = true := by
          rcases HM.out with ⟨_, e⟩ | ⟨e1, e2, _⟩
          · rw [e] at hG0; exact absurd rfl hG0
          · exact ⟨e1, e2⟩
        by_cases hq : rkO G.m < rkO m
        · have dq : decide (rkO ⟨G.m.x, G.m.y, G.m.d, G.m.e⟩ < rkO ⟨m.x, m.y, m.d, m.e⟩) = true := decide_eq_true hq
          have HMT := Hid.mk' (HM.out.put hmo hcm (.inr hq))
          clear HM hG0 hq
          refine wp_region_ext (by kernel_rfl) (by kernel_rfl) ?_
          repeat (go_big_quiet_step (first | (go_at_call 101; exact ext_grows (rankOutI _ _ _ _ _ hmo)) | (go_at_call 101; exact ext_grows (rankOutI _ _ _ _ _ hgo))))
          refine wpQuiet_nil ?_
          rintro _ ⟨v, rfl⟩
          have HBV := Hid.mk' (HB2.out.trans (v.2.mono HB2.out.size))
          have HZV := Hid.mk' (HZ2.out.below v.2)
          have HGV := Hid.mk' (HG2.out.below v.2)
          have HMV := Hid.mk' (HM2.out.below v.2)
          have HRV := Hid.mk' (HRG2.out.kept (below_grown v.2 none) (by simp) (by simp))
          obtain ⟨u, hu⟩ : ∃ u, v.1 = u := ⟨_, rfl⟩
          rw [hu] at HBV HZV HGV HMV HRV ⊢
          clear hu s0 s1 s2 s3 t0 t1 t2 t3 t4 ne v
          obtain ⟨q0, q1, q2, q3⟩ := HMV.out
          obtain ⟨⟨l0, l1, l2, l3, l4⟩, lz⟩ := HGV.out
          have HRW := Hid.mk' (HRV.out.kept (grown_s5 u (w.heap.size + 1) (.int .i64 (c m)) (.int .i64 m.x) (.int .i64 m.y) (.int .i64 m.d) (.int .i64 m.e)) (by simp; omega) (by simp))
          clear HRV
          go_wp2
          go_roundw
          case rel =>
            refine ⟨_, cnt2, ss ++ [m], ⟨c m, m⟩, HRW.out, HCO2.out, bel_s5 HBV.out (by omega) _ _ _ _ _, HZV.out.far (by omega), ⟨⟨by go_simp, by go_simp, by go_simp, by go_simp, by go_simp⟩, fun j => by go_simp⟩, HMT.out⟩
          case measure => rw [HRW.out.left_eq]; exact HLT.out
        · have dq : decide (rkO ⟨G.m.x, G.m.y, G.m.d, G.m.e⟩ < rkO ⟨m.x, m.y, m.d, m.e⟩) = false := decide_eq_false hq
          have HMT := Hid.mk' (HM.out.keep hg1 hq)
          clear HM hG0 hq
          refine wp_region_ext (by kernel_rfl) (by kernel_rfl) ?_
          repeat (go_big_quiet_step (first | (go_at_call 101; exact ext_grows (rankOutI _ _ _ _ _ hmo)) | (go_at_call 101; exact ext_grows (rankOutI _ _ _ _ _ hgo))))
          refine wpQuiet_nil ?_
          rintro _ ⟨v, rfl⟩
          have HBV := Hid.mk' (HB2.out.trans (v.2.mono HB2.out.size))
          have HZV := Hid.mk' (HZ2.out.below v.2)
          have HGV := Hid.mk' (HG2.out.below v.2)
          have HRV := Hid.mk' (HRG2.out.kept (below_grown v.2 none) (by simp) (by simp))
          obtain ⟨u, hu⟩ : ∃ u, v.1 = u := ⟨_, rfl⟩
          rw [hu] at HBV HZV HGV HRV ⊢
          clear hu s0 s1 s2 s3 t0 t1 t2 t3 t4 ne v
          go_wp2
          go_roundw
          case rel => exact ⟨_, cnt2, ss ++ [m], G, HRV.out, HCO2.out, HBV.out, HZV.out, HGV.out, HMT.out⟩
          case measure => rw [HRV.out.left_eq]; exact HLT.out
--@END
/-- the number of the rank's function. -/
def rkF (o : Int) : Nat := if o = 1 then 99 else if o = 3 then 101 else 100
theorem rkW1 : rkW 1 = rkD := by funext m; rfl
theorem rkW2 : rkW 2 = rkL := by funext m; rfl
theorem rkW3 : rkW 3 = rkO := by funext m; rfl
theorem greatestI (o : Int) (ho : 1 ≤ o ∧ o ≤ 3) (w : World) (b n : Nat) (p : List T) (h : SumR w b n (coef p)) (hp : okL p = true) (h0 : p.length ≠ 0) (t : T) (ht : ldL o p = t) :
    Calls Tryz.prog 138 #[.map (some b), .func (.func (rkF o)) #[] #[]] w fun r w' => r = .returned (.agg #[.int .i64 t.c, .int .i64 t.m.x, .int .i64 t.m.y, .int .i64 t.m.d, .int .i64 t.m.e]) ∧ Below w.heap.size w w' := by
  have ho3 : o = 1 ∨ o = 2 ∨ o = 3 := by omega
  rcases ho3 with rfl | rfl | rfl
  · refine (greatest1 w b n (coef p) h).mono ?_
    rintro r w' ⟨G, rfl, hb, ss, hm, hs⟩
    rw [← rkW1] at hm
    have := hm.all ho hp h0 hs
    rw [ht] at this
    subst this
    exact ⟨rfl, hb⟩
  · refine (greatest2 w b n (coef p) h).mono ?_
    rintro r w' ⟨G, rfl, hb, ss, hm, hs⟩
    rw [← rkW2] at hm
    have := hm.all ho hp h0 hs
    rw [ht] at this
    subst this
    exact ⟨rfl, hb⟩
  · refine (greatest3 w b n (coef p) h).mono ?_
    rintro r w' ⟨G, rfl, hb, ss, hm, hs⟩
    rw [← rkW3] at hm
    have := hm.all ho hp h0 hs
    rw [ht] at this
    subst this
    exact ⟨rfl, hb⟩
theorem ordRankV (o : Int) (w : World) (h1 : 1 ≤ o) (h2 : o ≤ 3) : Calls Tryz.prog 68 #[.int .i64 o] w fun r w' => r = .returned (.tuple #[.func (.func (rkF o)) #[] #[], .bool true]) ∧ Below w.heap.size w w' := by
  have ho3 : o = 1 ∨ o = 2 ∨ o = 3 := by omega
  rcases ho3 with rfl | rfl | rfl
  · exact ordRankI1 w
  · exact ordRankI2 w
  · exact ordRankI3 w
end Go.Proofs.YtehlfifplhnceaaGreat
namespace Go.Proofs.YtehlfifplhnceaaGreat
open Go.RowKit Go.Deep Go.Joins Go.Maps
set_option linter.unusedVariables false

theorem SumR.more {w : World} {b n n' : Nat} {c : M → Int} (h : SumR w b n c) (hn : n ≤ n') : SumR w b n' c := by
  obtain ⟨D, ho, h2⟩ := h
  exact ⟨D, ownsMap_more ho hn, h2⟩
theorem SumR.congr {w : World} {b n : Nat} {c c' : M → Int} (h : SumR w b n c) (he : ∀ m, m.ok = true → c m = c' m) (hb : ∀ m, 0 ≤ c' m ∧ c' m ≤ 100) : SumR w b n c' := by
  obtain ⟨D, ho, h1, h2, h3⟩ := h
  exact ⟨D, ho, hb, fun m hm => by rw [← he m hm]; exact h2 m hm, h3⟩
theorem SumR.below {w w' : World} {b n : Nat} {c : M → Int} (h : SumR w b n c) (hb : Below w.heap.size w w') : SumR w' b n c := h.grown (below_grown hb none) (by simp)
theorem SumR.ne_cell {w : World} {b n : Nat} {c : M → Int} (h : SumR w b n c) {b' o : Nat} {v : Value} (hc : w.cell? ⟨b', o, none⟩ = some v) : b' ≠ b := by
  rintro rfl
  obtain ⟨D, ⟨es, clock, h1, _⟩, _⟩ := h
  unfold World.cell? at hc
  simp [h1] at hc
theorem SumR.ne_rd {w : World} {b n : Nat} {c : M → Int} (h : SumR w b n c) {a : Option Addr} {k cap : Nat} {f : Nat → T} (hr : Rd w a k cap f) : k = 0 ∨ ∀ b' off, a = some ⟨b', off, none⟩ → some b' ≠ some b := by
  by_cases hk : k = 0
  · exact .inl hk
  · refine .inr fun b' off e e' => ?_
    rcases hr.2.2 with h0 | ⟨b1, off1, e1, _, hc⟩
    · exact hk h0
    · have hne := h.ne_cell (hc 0 (by omega)).1
      rw [e] at e1
      have e2 : b' = b1 := by simpa using congrArg (fun x : Option Addr => x.map (·.block)) e1
      have e3 : b' = b := by simpa using e'
      exact hne (e2.symm.trans e3)
theorem Rd.grownMap {w w' : World} {b n : Nat} {c : M → Int} (h : SumR w b n c) {a : Option Addr} {k cap : Nat} {f : Nat → T} (hr : Rd w a k cap f) (hg : w.grownBy w' (some b)) : Rd w' a k cap f := hr.grown hg (h.ne_rd hr)
theorem cell_grownMap {w w' : World} {b n : Nat} {c : M → Int} (h : SumR w b n c) {b' o : Nat} {v : Value} (hc : w.cell? ⟨b', o, none⟩ = some v) (hg : w.grownBy w' (some b)) : w'.cell? ⟨b', o, none⟩ = some v :=
  (World.cell?_of_block (a := ⟨b', o, none⟩) (hg.block b' (World.block_lt_of_cell? w _ hc) (fun e => h.ne_cell hc (by simpa using e)))).trans hc
theorem frozen_grownMap {w w' : World} {b n : Nat} {c : M → Int} (h : SumR w b n c) {b' o : Nat} {v : Value} (hc : w.cell? ⟨b', o, none⟩ = some v) {z : Bool} (hz : w.frozen? ⟨b', o, none⟩ = z) (hg : w.grownBy w' (some b)) : w'.frozen? ⟨b', o, none⟩ = z :=
  (World.frozen?_of_block (a := ⟨b', o, none⟩) (hg.block b' (World.block_lt_of_cell? w _ hc) (fun e => h.ne_cell hc (by simpa using e)))).trans hz
theorem RdS.grownMap {w w' : World} {b N : Nat} {c : M → Int} (h : SumR w b N c) {a : Option Addr} {n cap : Nat} {ad : Nat → Option Addr} {ln cp : Nat → Nat} {f : Nat → Nat → T} (hr : RdS w a n cap ad ln cp f) (hg : w.grownBy w' (some b)) : RdS w' a n cap ad ln cp f := by
  refine ⟨hr.1, hr.2.1, ?_, fun i hi => (hr.2.2.2 i hi).grownMap h hg⟩
  rcases hr.2.2.1 with h0 | ⟨b', off, e, hlt, hc⟩
  · exact .inl h0
  · exact .inr ⟨b', off, e, Nat.lt_of_lt_of_le hlt hg.size, fun i hi => cell_grownMap h (hc i hi) hg⟩
/-- where a division lies. -/
structure DvP where
  s0 : Nat
  Bd : Nat
  rk : Nat
  a : Option Addr
  al : Option Addr
  ta : Option Addr
  n : Nat
  cap : Nat
  cl : Nat
  tc : Nat
  ad : Nat → Option Addr
  ln : Nat → Nat
  cp : Nat → Nat
  f : Nat → Nat → T
  o : Int
  br : Nat
  bl : Nat
  bk : Nat → Nat
structure DvW (X : DvP) (w : World) (fu u N : Nat) (S : Dv) : Prop where
  c0 : w.cell? ⟨X.Bd, 0, none⟩ = some (.func (.func X.rk) #[] #[])
  c1 : w.cell? ⟨X.Bd, 1, none⟩ = some (.slice X.a X.n X.cap)
  c2 : w.cell? ⟨X.Bd, 2, none⟩ = some (.slice X.al X.n X.cl)
  c3 : w.cell? ⟨X.Bd, 3, none⟩ = some (.map (some X.br))
  c4 : w.cell? ⟨X.Bd, 4, none⟩ = some (.slice X.ta X.n X.tc)
  c5 : w.cell? ⟨X.Bd, 5, none⟩ = some (.map (some X.bl))
  c6 : w.cell? ⟨X.Bd, 6, none⟩ = some (.int .i64 (fu : Int))
  fz : w.frozen? ⟨X.Bd, 6, none⟩ = false
  ls : RdS w X.a X.n X.cap X.ad X.ln X.cp X.f
  ld : Rd w X.al X.n X.cl (lf (ldsL X.o X.ln X.f X.n))
  tk : X.n ≤ X.tc ∧ (X.n = 0 ∨ ∃ bt off, X.ta = some ⟨bt, off, none⟩ ∧ ∀ i, i < X.n → w.cell? ⟨bt, off + i, none⟩ = some (.map (some (X.bk i))))
  rs : SumR w X.br N (coef S.p)
  lf : SumR w X.bl u (coef S.r)
  tq : ∀ i, i < X.n → SumR w (X.bk i) u (coef (S.q i))
  ne : X.br ≠ X.bl ∧ ∀ i, i < X.n → X.bk i ≠ X.br ∧ X.bk i ≠ X.bl ∧ ∀ j, j < X.n → i ≠ j → X.bk i ≠ X.bk j
  lo : X.s0 ≤ X.Bd ∧ X.s0 ≤ X.br ∧ X.s0 ≤ X.bl ∧ ∀ i, i < X.n → X.s0 ≤ X.bk i
  sp : X.n = 0 ∨ ((∀ b off, X.a = some ⟨b, off, none⟩ → b ≠ X.Bd) ∧ (∀ i, i < X.n → X.ln i = 0 ∨ ∀ b off, X.ad i = some ⟨b, off, none⟩ → b ≠ X.Bd) ∧ (∀ b off, X.al = some ⟨b, off, none⟩ → b ≠ X.Bd) ∧ (∀ b off, X.ta = some ⟨b, off, none⟩ → b ≠ X.Bd))
theorem DvW.below {X : DvP} {w w' : World} {fu u N : Nat} {S : Dv} (h : DvW X w fu u N S) (hb : Below w.heap.size w w') : DvW X w' fu u N S where
  c0 := (hb.cell (p := ⟨X.Bd, 0, none⟩) (World.block_lt_of_cell? w _ h.c0)).trans h.c0
  c1 := (hb.cell (p := ⟨X.Bd, 1, none⟩) (World.block_lt_of_cell? w _ h.c1)).trans h.c1
  c2 := (hb.cell (p := ⟨X.Bd, 2, none⟩) (World.block_lt_of_cell? w _ h.c2)).trans h.c2
  c3 := (hb.cell (p := ⟨X.Bd, 3, none⟩) (World.block_lt_of_cell? w _ h.c3)).trans h.c3
  c4 := (hb.cell (p := ⟨X.Bd, 4, none⟩) (World.block_lt_of_cell? w _ h.c4)).trans h.c4
  c5 := (hb.cell (p := ⟨X.Bd, 5, none⟩) (World.block_lt_of_cell? w _ h.c5)).trans h.c5
  c6 := (hb.cell (p := ⟨X.Bd, 6, none⟩) (World.block_lt_of_cell? w _ h.c6)).trans h.c6
  fz := (hb.frozen (p := ⟨X.Bd, 6, none⟩) (World.block_lt_of_cell? w _ h.c6)).trans h.fz
  ls := h.ls.below hb
  ld := h.ld.below hb
  tk := ⟨h.tk.1, h.tk.2.imp id (fun ⟨bt, off, e, hc⟩ => ⟨bt, off, e, fun i hi => (hb.cell (p := ⟨bt, off + i, none⟩) (World.block_lt_of_cell? w _ (hc i hi))).trans (hc i hi)⟩)⟩
  rs := h.rs.below hb
  lf := h.lf.below hb
  tq := fun i hi => (h.tq i hi).below hb
  ne := h.ne
  lo := h.lo
  sp := h.sp
/-- one of its maps has turned. -/
theorem DvW.turn {X : DvP} {w w' : World} {fu u N u' N' : Nat} {S S' : Dv} (h : DvW X w fu u N S) {b K : Nat} {c : M → Int} (hm : SumR w b K c) (hg : w.grownBy w' (some b))
    (rs : SumR w' X.br N' (coef S'.p)) (lf : SumR w' X.bl u' (coef S'.r)) (tq : ∀ i, i < X.n → SumR w' (X.bk i) u' (coef (S'.q i))) : DvW X w' fu u' N' S' where
  c0 := cell_grownMap hm h.c0 hg
  c1 := cell_grownMap hm h.c1 hg
  c2 := cell_grownMap hm h.c2 hg
  c3 := cell_grownMap hm h.c3 hg
  c4 := cell_grownMap hm h.c4 hg
  c5 := cell_grownMap hm h.c5 hg
  c6 := cell_grownMap hm h.c6 hg
  fz := frozen_grownMap hm h.c6 h.fz hg
  ls := h.ls.grownMap hm hg
  ld := h.ld.grownMap hm hg
  tk := ⟨h.tk.1, h.tk.2.imp id (fun ⟨bt, off, e, hc⟩ => ⟨bt, off, e, fun i hi => cell_grownMap hm (hc i hi) hg⟩)⟩
  rs := rs
  lf := lf
  tq := tq
  ne := h.ne
  lo := h.lo
  sp := h.sp
/-- the rest has turned. -/
theorem DvW.turnRest {X : DvP} {w w' : World} {fu u N u' N' : Nat} {S : Dv} {p : List T} (h : DvW X w fu u N S) (hu : u ≤ u') (hg : w.grownBy w' (some X.br)) (rs : SumR w' X.br N' (coef p)) : DvW X w' fu u' N' ⟨p, S.q, S.r⟩ :=
  h.turn h.rs hg rs ((h.lf.grown hg (by simpa using h.ne.1.symm)).more hu) (fun i hi => ((h.tq i hi).grown hg (by simpa using (h.ne.2 i hi).1)).more hu)
/-- what is left has turned. -/
theorem DvW.turnLeft {X : DvP} {w w' : World} {fu u N u' : Nat} {S : Dv} {r : List T} (h : DvW X w fu u N S) (hu : u ≤ u') (hg : w.grownBy w' (some X.bl)) (lf : SumR w' X.bl u' (coef r)) : DvW X w' fu u' N ⟨S.p, S.q, r⟩ :=
  h.turn h.lf hg (h.rs.grown hg (by simpa using h.ne.1)) lf (fun i hi => ((h.tq i hi).grown hg (by simpa using (h.ne.2 i hi).2.1)).more hu)
/-- what is taken of one has turned. -/
theorem DvW.turnTaken {X : DvP} {w w' : World} {fu u N u' : Nat} {S : Dv} {q : List T} (h : DvW X w fu u N S) (hu : u ≤ u') {k : Nat} (hk : k < X.n) (hg : w.grownBy w' (some (X.bk k))) (hq : SumR w' (X.bk k) u' (coef q)) : DvW X w' fu u' N ⟨S.p, updQ S.q k q, S.r⟩ := by
  refine h.turn (h.tq k hk) hg (h.rs.grown hg (by simpa using (h.ne.2 k hk).1.symm)) ((h.lf.grown hg (by simpa using (h.ne.2 k hk).2.1.symm)).more hu) (fun i hi => ?_)
  show SumR w' (X.bk i) u' (coef (updQ S.q k q i))
  unfold updQ
  split
  · rename_i e
    rw [e]; exact hq
  · rename_i e
    exact ((h.tq i hi).grown hg (by simpa using (h.ne.2 k hk).2.2 i hi (fun e' => e e'.symm) |>.symm)).more hu
/-- the fuel has turned. -/
theorem DvW.burn {X : DvP} {w : World} {fu u N : Nat} {S : Dv} (h : DvW X w (fu + 1) u N S) : DvW X (w.setCell ⟨X.Bd, 6, none⟩ (.int .i64 (fu : Int))) fu u N S := by
  have hg := grownSet w X.Bd 6 (.int .i64 (fu : Int))
  have hcell : ∀ {b o : Nat} {v : Value}, w.cell? ⟨b, o, none⟩ = some v → (b ≠ X.Bd ∨ o ≠ 6) → (w.setCell ⟨X.Bd, 6, none⟩ (.int .i64 (fu : Int))).cell? ⟨b, o, none⟩ = some v := fun {b o v} hc hne => by
    rw [World.cell?_setCell_other _ _ _ _ (by intro e; cases e; rcases hne with h | h <;> exact h rfl)]
    exact hc
  have hmap : ∀ {b N : Nat} {c : M → Int}, SumR w b N c → SumR (w.setCell ⟨X.Bd, 6, none⟩ (.int .i64 (fu : Int))) b N c := fun {b N c} hs => hs.grown hg (by simpa using (hs.ne_cell h.c0).symm)
  have hrd : ∀ {a : Option Addr} {k cap : Nat} {f : Nat → T}, Rd w a k cap f → (k = 0 ∨ ∀ b off, a = some ⟨b, off, none⟩ → b ≠ X.Bd) → Rd (w.setCell ⟨X.Bd, 6, none⟩ (.int .i64 (fu : Int))) a k cap f := fun {a k cap f} hr hne => hr.grown hg (hne.imp id (fun hn b off e e' => hn b off e (by simpa using e')))
  rcases h.sp with hn0 | hsp
  · exact {
      c0 := hcell h.c0 (.inr (by decide))
      c1 := hcell h.c1 (.inr (by decide))
      c2 := hcell h.c2 (.inr (by decide))
      c3 := hcell h.c3 (.inr (by decide))
      c4 := hcell h.c4 (.inr (by decide))
      c5 := hcell h.c5 (.inr (by decide))
      c6 := by simp [go_sem, h.c6]
      fz := by simp [go_sem, h.fz]
      ls := ⟨h.ls.1, h.ls.2.1, .inl hn0, fun i hi => absurd hi (by omega)⟩
      ld := hrd h.ld (.inl hn0)
      tk := ⟨h.tk.1, .inl hn0⟩
      rs := hmap h.rs
      lf := hmap h.lf
      tq := fun i hi => hmap (h.tq i hi)
      ne := h.ne
      lo := h.lo
      sp := h.sp }
  · exact {
      c0 := hcell h.c0 (.inr (by decide))
      c1 := hcell h.c1 (.inr (by decide))
      c2 := hcell h.c2 (.inr (by decide))
      c3 := hcell h.c3 (.inr (by decide))
      c4 := hcell h.c4 (.inr (by decide))
      c5 := hcell h.c5 (.inr (by decide))
      c6 := by simp [go_sem, h.c6]
      fz := by simp [go_sem, h.fz]
      ls := ⟨h.ls.1, h.ls.2.1, h.ls.2.2.1.imp id (fun ⟨b, off, e, hlt, hc⟩ => ⟨b, off, e, Nat.lt_of_lt_of_le hlt hg.size, fun i hi => hcell (hc i hi) (.inl (hsp.1 b off e))⟩), fun i hi => hrd (h.ls.2.2.2 i hi) (hsp.2.1 i hi)⟩
      ld := hrd h.ld (.inr hsp.2.2.1)
      tk := ⟨h.tk.1, h.tk.2.imp id (fun ⟨bt, off, e, hc⟩ => ⟨bt, off, e, fun i hi => hcell (hc i hi) (.inl (hsp.2.2.2 bt off e))⟩)⟩
      rs := hmap h.rs
      lf := hmap h.lf
      tq := fun i hi => hmap (h.tq i hi)
      ne := h.ne
      lo := h.lo
      sp := h.sp }
/-- nothing has turned but the division's own memory. -/
structure Turn (X : DvP) (w w' : World) : Prop where
  os : w'.os = w.os
  tape : w'.tape = w.tape
  output : w'.output = w.output
  size : w.heap.size ≤ w'.heap.size
  block : ∀ b, b < w.heap.size → b ≠ X.Bd → b ≠ X.br → b ≠ X.bl → (∀ i, i < X.n → b ≠ X.bk i) → w'.heap[b]? = w.heap[b]?
theorem Turn.of {X : DvP} {w w' : World} (h : Below w.heap.size w w') : Turn X w w' := ⟨h.os, h.tape, h.output, h.size, fun b hb _ _ _ _ => h.block b hb⟩
theorem Turn.trans {X : DvP} {w w' w'' : World} (h : Turn X w w') (k : Turn X w' w'') : Turn X w w'' :=
  ⟨k.os.trans h.os, k.tape.trans h.tape, k.output.trans h.output, Nat.le_trans h.size k.size, fun b hb h1 h2 h3 h4 => (k.block b (Nat.lt_of_lt_of_le hb h.size) h1 h2 h3 h4).trans (h.block b hb h1 h2 h3 h4)⟩
theorem Turn.drew {X : DvP} {w w' : World} (h : Turn X w w') : Turn X w w'.drew := h.trans (Turn.of (Below.refl _ _).drew)
theorem Turn.map {X : DvP} {w w' : World} {b : Nat} (hg : w.grownBy w' (some b)) (h : b = X.br ∨ b = X.bl ∨ ∃ i, i < X.n ∧ b = X.bk i) : Turn X w w' :=
  ⟨hg.os, hg.tape, hg.output, hg.size, fun c hc h1 h2 h3 h4 => hg.block c hc (fun e => by
    obtain rfl : c = b := by simpa using e
    rcases h with rfl | rfl | ⟨i, hi, rfl⟩
    · exact h2 rfl
    · exact h3 rfl
    · exact h4 i hi rfl)⟩
theorem Turn.fuel {X : DvP} {w w' : World} (hg : w.grownBy w' (some X.Bd)) : Turn X w w' :=
  ⟨hg.os, hg.tape, hg.output, hg.size, fun c hc h1 _ _ _ => hg.block c hc (fun e => h1 (by simpa using e))⟩
theorem Turn.below {X : DvP} {w w' : World} (h : Turn X w w') {fu u N : Nat} {S : Dv} (hd : DvW X w fu u N S) : Below X.s0 w w' :=
  ⟨h.os, h.tape, h.output, h.size, fun b hb => h.block b (Nat.lt_of_lt_of_le hb (Nat.le_trans hd.lo.1 (Nat.le_of_lt (World.block_lt_of_cell? w _ hd.c0)))) (by have := hd.lo.1; omega) (by have := hd.lo.2.1; omega) (by have := hd.lo.2.2.1; omega) (fun i hi => by have := hd.lo.2.2.2 i hi; omega)⟩
end Go.Proofs.YtehlfifplhnceaaGreat
namespace Go.Proofs.YtehlfifplhnceaaGreat
open Go.RowKit Go.Deep Go.Joins Go.Maps
set_option linter.unusedVariables false

/-- a monomial is struck. -/
theorem SumR.del {w : World} {b n : Nat} {c : M → Int} (h : SumR w b n c) {m : M} (hm : m.ok = true) (ty : TypeId) :
    ∃ w', (Builtin.delete_ #[152, 57] ty #[.map (some b), .agg #[.int .i64 m.x, .int .i64 m.y, .int .i64 m.d, .int .i64 m.e]]).run Tryz.prog w = .ok (.tuple #[]) w' ∧ SumR w' b n (fun x => if meq x m = true then 0 else c x) ∧ w.grownBy w' (some b) := by
  obtain ⟨D, hown, hc, hat, hks⟩ := h
  obtain ⟨w', hrun, ho, ht⟩ := hown.drop lawM Tryz.underlying152 (keyOfM hm) ty
  refine ⟨w', hrun, ⟨_, ho, fun x => ?_, fun x hx => ?_, fun kl hkl => ?_⟩, ht.grown⟩
  · dsimp only
    split
    · exact ⟨Int.le_refl _, by decide⟩
    · exact hc x
  · by_cases hxm : x = m
    · subst hxm
      rw [atKey_del_same, has_del_same]
      simp [meq_iff.2 rfl]
    · have hne : keyM x ≠ keyM m := fun e => hxm (keyM_inj hx hm e)
      have hb : ¬ meq x m = true := fun e => hxm (meq_iff.1 e)
      rw [atKey_del_other hne, has_del_other hne]
      simp only [hb]
      exact hat x hx
  · by_cases hkm : kl = keyM m
    · exact ⟨m, hm, hkm⟩
    · rw [has_del_other hkm] at hkl
      exact hks kl hkl
theorem SumR.len {w : World} {b n : Nat} {K : List T} (h : SumR w b n (coef K)) (hK : Falls K) (ty : TypeId) : (Builtin.len_ #[152] ty #[.map (some b)]).run Tryz.prog w = .ok (.int .i64 (K.length : Int)) w := by
  obtain ⟨D, hown, hc, hat, hks⟩ := h
  have h1 := hown.len Tryz.underlying152 ty
  rw [size_K hown hat hks hK (fun _ _ => rfl)] at h1
  exact h1
theorem add_one_coef {L : List T} (hL : Falls L) {t : T} (ht : t.m.ok = true ∧ 1 ≤ t.c ∧ t.c ≤ 100) : ∀ x, updC (coef L) t.m t.c x = coef (addL L [t]) x := fun x => by
  rw [(addL_facts hL (fallsOne ht)).2 x]
  unfold updC
  by_cases e : x = t.m
  · subst e
    rw [if_pos (meq_iff.2 rfl), coef_cons_same]
  · have hb := coef_range hL x
    rw [if_neg (fun e' => e (meq_iff.1 e')), coef_cons_ne (fun e' => e e'.symm)]
    show coef L x = (coef L x + 0) % 101
    omega
theorem del_one_coef {L : List T} (hL : Falls L) {t : T} (ht : t ∈ L) : ∀ x, (if meq x t.m = true then 0 else coef L x) = coef (subL L [t]) x := fun x => by
  have ht' := hL.2 t ht
  rw [(subL_facts hL (fallsOne ht')).2 x]
  by_cases e : x = t.m
  · subst e
    rw [if_pos (meq_iff.2 rfl), coef_cons_same, (mem_coefV hL ht).1]
    omega
  · have hb := coef_range hL x
    rw [if_neg (fun e' => e (meq_iff.1 e')), coef_cons_ne (fun e' => e e'.symm)]
    show coef L x = (coef L x + 100 * 0 % 101) % 101
    omega
theorem below_map {s0 b : Nat} {w w' : World} (hg : w.grownBy w' (some b)) (h : s0 ≤ b) (hs : s0 ≤ w.heap.size) : Below s0 w w' := (Below.refl s0 w).grown hg hs (fun k e => by cases e; exact h)
theorem DvW.s0 {X : DvP} {w : World} {fu u N : Nat} {S : Dv} (h : DvW X w fu u N S) : X.s0 ≤ w.heap.size := Nat.le_trans h.lo.1 (Nat.le_of_lt (World.block_lt_of_cell? w _ h.c0))
set_option maxRecDepth 100000 in
set_option maxHeartbeats 4000000 in
theorem leaveI (X : DvP) (w : World) (fu u N : Nat) (S : Dv) (t : T) (h : DvW X w fu u N S) (hok : DvOk u S) (hu : u < 300) (h0 : S.p.length ≠ 0) (ht : ldL X.o S.p = t) :
    Calls Tryz.prog 141 #[.pointer (some ⟨X.Bd, 0, none⟩), .agg #[.int .i64 t.c, .int .i64 t.m.x, .int .i64 t.m.y, .int .i64 t.m.d, .int .i64 t.m.e]] w fun r w' => r = .returned (.tuple #[]) ∧ DvW X w' fu (u + 1) N (dvLeave X.o S) ∧ Turn X w w' := by
  have hg := ldL_good (o := X.o) (okL_falls hok.p).2 h0
  have hmem := ldL_mem (o := X.o) h0
  rw [ht] at hg hmem
  have HE : Hid (dvLeave X.o S = ⟨subL S.p [t], S.q, addL S.r [t]⟩) := by show dvLeave X.o S = _; unfold dvLeave; rw [ht]
  have hs0 := h.s0
  have HB := Hid.mk' (Turn.of (X := X) (bel_one w (.cells #[.int .i64 t.c, .int .i64 t.m.x, .int .i64 t.m.y, .int .i64 t.m.d, .int .i64 t.m.e] 59)))
  have HW := Hid.mk' (h.below (bel_one w (.cells #[.int .i64 t.c, .int .i64 t.m.x, .int .i64 t.m.y, .int .i64 t.m.d, .int .i64 t.m.e] 59)))
  have HC := Hid.mk' (C5.box w 59 t)
  have HRF := Hid.mk' hok.r.1
  have HPF := Hid.mk' (okL_falls hok.p).2
  have HM := Hid.mk' hmem
  have HG := Hid.mk' hg
  clear h hok ht hmem
  rw [HE.out]
  go_enter Tryz.func141, Tryz.ntmps141
  go_wp2_with fail
  generalize (w.alloc (.cells #[.int .i64 t.c, .int .i64 t.m.x, .int .i64 t.m.y, .int .i64 t.m.d, .int .i64 t.m.e] 59)) = wq at HB HW HC ⊢
  have HWD := Hid.mk' (HW.out.below (Below.refl _ wq).drew)
  have HADD := Hid.mk' (sumAddR X.bl u (coef S.r) t.c t.m wq.drew hg.1 HWD.out.lf (by unfold maxLen; omega) (by omega) hg.2.2)
  have k5 := HW.out.c5
  obtain ⟨q0, q1, q2, q3, q4⟩ := HC.out
  have hcl := HC.out.lt
  go_region_with (go_at_call 156; refine HADD.out.mono ?_; rintro r w4 ⟨rfl, hS4, hg4⟩; have HS4 := Hid.mk' hS4; have HG4 := Hid.mk' hg4; clear hS4 hg4)
  all_goals
    have HW4 := Hid.mk' (HWD.out.turnLeft (u' := u + 1) (r := addL S.r [t]) (Nat.le_succ _) HG4.out (HS4.out.congr (fun m _ => add_one_coef HRF.out HG.out m) (fun m => coef_range (addL_facts HRF.out (fallsOne HG.out)).1 m)))
    have HB4 := Hid.mk' (HB.out.drew.trans (Turn.map HG4.out (.inr (.inl rfl))))
    have r0 := cell_grownMap HWD.out.lf (b' := w.heap.size) (o := 1) (v := .int .i64 t.m.x) q1 HG4.out
    have r1 := cell_grownMap HWD.out.lf (b' := w.heap.size) (o := 2) (v := .int .i64 t.m.y) q2 HG4.out
    have r2 := cell_grownMap HWD.out.lf (b' := w.heap.size) (o := 3) (v := .int .i64 t.m.d) q3 HG4.out
    have r3 := cell_grownMap HWD.out.lf (b' := w.heap.size) (o := 4) (v := .int .i64 t.m.e) q4 HG4.out
    have k3 := HW4.out.c3
    have HW5 := Hid.mk' (HW4.out.below (Below.refl _ w4).drew)
    obtain ⟨w6, hrun, hS6, hg6⟩ := HW5.out.rs.del HG.out.1 0
    have HS6 := Hid.mk' hS6
    have HG6 := Hid.mk' hg6
    clear hS6 hg6 q0 q1 q2 q3 q4 k5 HS4 HG4 HADD
    go_wp2_with fail
    go_region_with fail
    all_goals
      go_wp2
      go_end0
      refine ⟨rfl, ?_, ?_⟩
      · exact HW5.out.turnRest (Nat.le_refl _) HG6.out (HS6.out.congr (fun m _ => del_one_coef HPF.out HM.out m) (fun m => coef_range (subL_facts HPF.out (fallsOne HG.out)).1 m))
      · exact HB4.out.drew.trans (Turn.map HG6.out (.inl rfl))
end Go.Proofs.YtehlfifplhnceaaGreat
