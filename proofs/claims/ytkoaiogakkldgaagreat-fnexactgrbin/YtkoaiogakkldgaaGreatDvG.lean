/-
  The greatest term of a sum while it is made.
-/
import Derived.Test.YtkoaiogakkldgaaGreatDvM
import Derived.Test.YtkoaiogakkldgaaGreatGaj
import Derived.Maps.RangeWalk
import Derived.Deep.RegionWith
namespace Go.Proofs.YtkoaiogakkldgaaGreat
open Go.RowKit Go.Deep Go.Joins Go.Maps
set_option linter.unusedVariables false

theorem Own5.grown {w w' : World} {b : Nat} {t : T} {row : Option Nat} (h : Own5 w b t) (hg : w.grownBy w' row) (hne : some b ≠ row) : Own5 w' b t := by
  have hl := h.1.lt
  have hb := hg.block b hl hne
  obtain ⟨⟨h0, h1, h2, h3, h4⟩, h5⟩ := h
  exact ⟨⟨(World.cell?_of_block (a := ⟨b, 0, none⟩) hb).trans h0, (World.cell?_of_block (a := ⟨b, 1, none⟩) hb).trans h1, (World.cell?_of_block (a := ⟨b, 2, none⟩) hb).trans h2, (World.cell?_of_block (a := ⟨b, 3, none⟩) hb).trans h3, (World.cell?_of_block (a := ⟨b, 4, none⟩) hb).trans h4⟩, fun j => (World.frozen?_of_block (a := ⟨b, j, none⟩) hb).trans (h5 j)⟩
theorem grownSet (w : World) (b i : Nat) (v : Value) : w.grownBy (w.setCell ⟨b, i, none⟩ v) (some b) :=
  ⟨(Below.refl 0 w).setCell (p := ⟨b, i, none⟩) (Nat.zero_le _) v |>.os, (Below.refl 0 w).setCell (p := ⟨b, i, none⟩) (Nat.zero_le _) v |>.tape, (Below.refl 0 w).setCell (p := ⟨b, i, none⟩) (Nat.zero_le _) v |>.output, (Below.refl 0 w).setCell (p := ⟨b, i, none⟩) (Nat.zero_le _) v |>.size, fun k _ hk => Below.heap_setCell _ _ _ k (fun e => hk (by rw [e]))⟩
theorem grown_s5 (w : World) (B : Nat) (v0 v1 v2 v3 v4 : Value) : w.grownBy (((((w.setCell ⟨B, 0, none⟩ v0).setCell ⟨B, 1, none⟩ v1).setCell ⟨B, 2, none⟩ v2).setCell ⟨B, 3, none⟩ v3).setCell ⟨B, 4, none⟩ v4) (some B) :=
  ((((grownSet w B 0 v0).trans (grownSet _ B 1 v1)).trans (grownSet _ B 2 v2)).trans (grownSet _ B 3 v3)).trans (grownSet _ B 4 v4)
/-- the greatest one of those that have come. -/
def Met (rk : M → Int) (c : M → Int) (ss : List M) (G : T) : Prop := (ss = [] ∧ G = zeroT) ∨ (1 ≤ G.c ∧ G.m.ok = true ∧ G.m ∈ ss ∧ G.c = c G.m ∧ ∀ m ∈ ss, rk m ≤ rk G.m)
theorem Met.first {rk c : M → Int} {G : T} (h : Met rk c [] G) : G = zeroT := by
  rcases h with ⟨_, h⟩ | ⟨_, _, h, _⟩
  · exact h
  · simp at h
theorem Met.put {rk c : M → Int} {ss : List M} {G : T} {m : M} (h : Met rk c ss G) (hm : m.ok = true) (hc : 1 ≤ c m) (hg : G.c = 0 ∨ rk G.m < rk m) : Met rk c (ss ++ [m]) ⟨c m, m⟩ := by
  refine .inr ⟨hc, hm, by simp, rfl, fun x hx => ?_⟩
  rcases List.mem_append.1 hx with hx | hx
  · rcases h with ⟨rfl, _⟩ | ⟨h1, _, _, _, h5⟩
    · simp at hx
    · rcases hg with hg | hg
      · omega
      · have := h5 x hx
        show rk x ≤ rk m
        omega
  · simp at hx; rw [hx]; exact Int.le_refl _
theorem Met.keep {rk c : M → Int} {ss : List M} {G : T} {m : M} (h : Met rk c ss G) (h1 : 1 ≤ G.c) (hg : ¬ rk G.m < rk m) : Met rk c (ss ++ [m]) G := by
  rcases h with ⟨_, rfl⟩ | ⟨_, h0, h2, h3, h5⟩
  · exact absurd h1 (by decide)
  · refine .inr ⟨h1, h0, List.mem_append_left _ h2, h3, fun x hx => ?_⟩
    rcases List.mem_append.1 hx with hx | hx
    · exact h5 x hx
    · simp at hx; rw [hx]; omega
theorem Met.all {o : Int} {p : List T} (ho : 1 ≤ o ∧ o ≤ 3) (hp : okL p = true) (h0 : p.length ≠ 0) {ss : List M} {G : T} (h : Met (rkW o) (coef p) ss G) (hs : ∀ m : M, m.ok = true → (m ∈ ss ↔ coef p m ≠ 0)) : G = ldL o p := by
  have hl := ldL_mem (o := o) h0
  have hf := (okL_falls hp).2
  have hlm := hf.2 _ hl
  have hcl := mem_coefV hf hl
  have hin : (ldL o p).m ∈ ss := (hs _ hlm.1).2 hcl.2
  rcases h with ⟨rfl, _⟩ | ⟨h1, h2, h3, h4, h5⟩
  · simp at hin
  · have hc : coef p G.m ≠ 0 := (hs _ h2).1 h3
    obtain ⟨t, ht, he⟩ := List.mem_map.1 (coef_mem hc)
    have he : t.m = G.m := he
    have e1 := h5 _ hin
    have e2 := ldL_top ho hp h0 t ht
    rw [he] at e2
    have e3 : G.m = (ldL o p).m := rkW_inj _ _ h2 hlm.1 (Int.le_antisymm e2 e1)
    have e4 : G.c = (ldL o p).c := by rw [h4, e3, hcl.1]
    cases hG : G with | mk gc gm =>
    cases hL : ldL o p with | mk lc lm =>
    rw [hG, hL] at e3 e4
    simp at e3 e4
    rw [e3, e4]
theorem CollM.all {D : DataW Unit} {left : Lit → Bool} {ss : List M} {c : M → Int} (h : CollM D left ss) (hl : ∀ kl, left kl = false) (hat : ∀ m : M, m.ok = true → D.atKey (keyM m) (.lit (.int .i64 0)) = .lit (.int .i64 (c m)) ∧ (Maps.has D (keyM m) = true ↔ c m ≠ 0)) : ∀ m : M, m.ok = true → (m ∈ ss ↔ c m ≠ 0) := fun m hm => by
  rw [h.2.2 m hm, hl]
  simp [(hat m hm).2]
set_option maxRecDepth 100000 in
set_option maxHeartbeats 8000000 in
theorem greatest1 (w : World) (b n : Nat) (c : M → Int) (h : SumR w b n c) :
    Calls Tryz.prog 44 #[.map (some b), .func (.func 58) #[] #[]] w fun r w' => ∃ G : T, r = .returned (.agg #[.int .i64 G.c, .int .i64 G.m.x, .int .i64 G.m.y, .int .i64 G.m.d, .int .i64 G.m.e]) ∧ Below w.heap.size w w' ∧ ∃ ss, Met rkD c ss G ∧ ∀ m : M, m.ok = true → (m ∈ ss ↔ c m ≠ 0) := by
  obtain ⟨D, hown, hc, hat, hks⟩ := h
  have hblt := hown.lt
  have HKS := Hid.mk' hks
  have HAT := Hid.mk' hat
  have HC := Hid.mk' hc
  have HO2 := Hid.mk' ((hown.alloc (.cells #[.int .i64 0, .int .i64 0, .int .i64 0, .int .i64 0, .int .i64 0] 46)).alloc (.cells #[.int .i64 0, .int .i64 0, .int .i64 0, .int .i64 0, .int .i64 0] 46))
  have HB0 := Hid.mk' (bel_two w (.cells #[.int .i64 0, .int .i64 0, .int .i64 0, .int .i64 0, .int .i64 0] 46) (.cells #[.int .i64 0, .int .i64 0, .int .i64 0, .int .i64 0, .int .i64 0] 46))
  have HZ0 := Hid.mk' ((Own5.box w 46 zeroT).below (bel_one _ (.cells #[.int .i64 0, .int .i64 0, .int .i64 0, .int .i64 0, .int .i64 0] 46)))
  have HG0 := Hid.mk' (Own5.box (w.alloc (.cells #[.int .i64 0, .int .i64 0, .int .i64 0, .int .i64 0, .int .i64 0] 46)) 46 zeroT)
  clear hks hat hown hc
  go_enter Tryz.func44, Tryz.ntmps44
  go_wp2_with (first
    | (at_range; refine wpList_range_own _ rfl _ 73 rfl 44 78 lawM Tryz.underlying73 _ b n D rfl HO2.out ?_; intro w0 hrg0 hg0 hs0)
    | go_in)
  have hs2 : ((w.alloc (.cells #[.int .i64 0, .int .i64 0, .int .i64 0, .int .i64 0, .int .i64 0] 46)).alloc (.cells #[.int .i64 0, .int .i64 0, .int .i64 0, .int .i64 0, .int .i64 0] 46)).heap.size = w.heap.size + 2 := by simp
  have HB1 := Hid.mk' (bel_grown HB0.out hg0 (by simp))
  have HZ1 := Hid.mk' (HZ0.out.grown hg0 (by simp))
  have HG1 := Hid.mk' (HG0.out.grown hg0 (by simp))
  have HRG := Hid.mk' hrg0
  rw [hs2] at HRG
  simp only [World.size_alloc] at HG1
  clear HB0 HZ0 HG0 HO2 hrg0 hg0 hs0
  go_frame
  rw [hs2]
  go_loopw [6] (fun _ wr => ∃ (left : Lit → Bool) (cnt : Nat) (ss : List M) (G : T), wr.ranges Tryz.prog 44 (plainElem Tryz.prog 78) b (w.heap.size + 2) n D left cnt ∧ CollM D left ss ∧ Below w.heap.size w wr ∧ Own5 wr w.heap.size zeroT ∧ Own5 wr (w.heap.size + 1) G ∧ Met rkD c ss G)
    (fun _ wr => wr.rangeLeft b (w.heap.size + 2))
  case atStart => exact ⟨_, _, [], zeroT, HRG.out, CollM.start D, HB1.out, HZ1.out, HG1.out, .inl ⟨rfl, rfl⟩⟩
  case round =>
    obtain ⟨left, cnt, ss, G, hrg, hC, hB, hZ, hG, hM⟩ := hrel
    have HCO := Hid.mk' hC
    have HB := Hid.mk' hB
    have HZ := Hid.mk' hZ
    have HGG := Hid.mk' hG
    have HM := Hid.mk' hM
    have HRR := Hid.mk' hrg
    have hGl : w.heap.size + 1 < wr.heap.size := hG.1.lt
    clear hC hB hZ hG hM
    go_wp2_with (first
      | (at_next; refine wpList_next_ranges _ rfl _ rfl 44 lawM (plainElem Tryz.prog 78) (id : Value → Value) (Value.int .i64) (fun key kl hk => ⟨key, rfl⟩) (fun v y hv => by obtain ⟨c, rfl, _⟩ := plainElem_int_inv Tryz.underlying78 hv; exact ⟨c, rfl⟩) b (w.heap.size + 2) n _ _ _ rfl HRR.out ?_ ?_)
      | go_in)
    · intro hc0 hl0
      obtain ⟨⟨z0, z1, z2, z3, z4⟩, fz⟩ := HZ.out
      obtain ⟨⟨l0, l1, l2, l3, l4⟩, _⟩ := HGG.out
      simp only [zeroT] at z0 z1 z2 z3 z4
      have HAL := Hid.mk' (HCO.out.all hl0 HAT.out)
      clear hl0 hrg HZ HGG
      go_wp2
      refine bodyPost_ret (v := .agg #[.int .i64 G.c, .int .i64 G.m.x, .int .i64 G.m.y, .int .i64 G.m.d, .int .i64 G.m.e]) (by simp [results, Tryz.results44, go_sem, *]) rfl ⟨G, rfl, ?_, ss, HM.out, HAL.out⟩
      exact bel_s5 HB.out (Nat.le_refl _) _ _ _ _ _
    · intro x cv kl yd yp w2 cnt2 hkey hlk hv hatx hrg2 hlt hg2 hsz2 hen
      obtain ⟨m, hmo, rfl⟩ := HKS.out kl (has_true_of_atKey hatx)
      obtain rfl : x = enM m := lawM.inj hkey (keyOfM hmo)
      obtain rfl : cv = c m := by
        obtain ⟨c', e, e2, _⟩ := plainElem_int_inv Tryz.underlying78 hv
        cases e
        cases e2
        have h1 := (HAT.out m hmo).1
        rw [hatx] at h1
        simpa using h1
      have hcm : 1 ≤ c m := by
        have h1 := (HAT.out m hmo).2.1 (has_true_of_atKey hatx)
        have h2 := (HC.out m).1
        omega
      have hcm2 := (HC.out m).2
      have HRG2 := Hid.mk' (hrg2.alloc (.cells #[.int .i64 m.x, .int .i64 m.y, .int .i64 m.d, .int .i64 m.e] 44))
      have HLT := Hid.mk' (show cnt2 < wr.rangeLeft b (w.heap.size + 2) by rw [hrg.left_eq]; exact hlt)
      have HCO2 := Hid.mk' (HCO.out.step hmo hlk hatx)
      have hB2 := bel_grown HB.out hg2 (fun k e => by cases e; omega)
      have HB2 := Hid.mk' (hB2.alloc hB2.size (.cells #[.int .i64 m.x, .int .i64 m.y, .int .i64 m.d, .int .i64 m.e] 44))
      have HZ2 := Hid.mk' ((HZ.out.grown hg2 (by simp)).below (bel_one w2 (.cells #[.int .i64 m.x, .int .i64 m.y, .int .i64 m.d, .int .i64 m.e] 44)))
      have HG2 := Hid.mk' ((HGG.out.grown hg2 (by simp)).below (bel_one w2 (.cells #[.int .i64 m.x, .int .i64 m.y, .int .i64 m.d, .int .i64 m.e] 44)))
      have HM2 := Hid.mk' (M4.box w2 44 m.x m.y m.d m.e)
      have hsw : w.heap.size + 1 < w2.heap.size := by rw [hsz2]; exact hGl
      have hrw : w.heap.size + 2 < w2.heap.size := hrg2.lt
      have hbw : b < w2.heap.size := hrg2.owns.lt
      clear hlk hatx hrg hrg2 hlt hg2 hsz2 hkey hv hB2 HRR HB HZ HGG HCO hGl
      go_wp2_with fail
      generalize (w2.alloc (.cells #[.int .i64 m.x, .int .i64 m.y, .int .i64 m.d, .int .i64 m.e] 44)) = wq at HRG2 HB2 HZ2 HG2 HM2 ⊢
      have ne := Ext.there wq
      have s0 : ∀ u : Ext wq, u.1.cell? ⟨w2.heap.size, 0, none⟩ = some (.int .i64 m.x) := fun u => (u.cell HM2.out.lt).trans HM2.out.1
      have s1 : ∀ u : Ext wq, u.1.cell? ⟨w2.heap.size, 1, none⟩ = some (.int .i64 m.y) := fun u => (u.cell HM2.out.lt).trans HM2.out.2.1
      have s2 : ∀ u : Ext wq, u.1.cell? ⟨w2.heap.size, 2, none⟩ = some (.int .i64 m.d) := fun u => (u.cell HM2.out.lt).trans HM2.out.2.2.1
      have s3 : ∀ u : Ext wq, u.1.cell? ⟨w2.heap.size, 3, none⟩ = some (.int .i64 m.e) := fun u => (u.cell HM2.out.lt).trans HM2.out.2.2.2
      have t0 : ∀ u : Ext wq, u.1.cell? ⟨w.heap.size + 1, 0, none⟩ = some (.int .i64 G.c) := fun u => (u.cell HG2.out.1.lt).trans HG2.out.1.1
      have t1 : ∀ u : Ext wq, u.1.cell? ⟨w.heap.size + 1, 1, none⟩ = some (.int .i64 G.m.x) := fun u => (u.cell HG2.out.1.lt).trans HG2.out.1.2.1
      have t2 : ∀ u : Ext wq, u.1.cell? ⟨w.heap.size + 1, 2, none⟩ = some (.int .i64 G.m.y) := fun u => (u.cell HG2.out.1.lt).trans HG2.out.1.2.2.1
      have t3 : ∀ u : Ext wq, u.1.cell? ⟨w.heap.size + 1, 3, none⟩ = some (.int .i64 G.m.d) := fun u => (u.cell HG2.out.1.lt).trans HG2.out.1.2.2.2.1
      have t4 : ∀ u : Ext wq, u.1.cell? ⟨w.heap.size + 1, 4, none⟩ = some (.int .i64 G.m.e) := fun u => (u.cell HG2.out.1.lt).trans HG2.out.1.2.2.2.2
      by_cases hG0 : G.c = 0
      · have hgz : ((G.c : Int) == 0) = true := by simpa using hG0
        have HMT := Hid.mk' (HM.out.put hmo hcm (.inl hG0))
        clear HM hG0
        refine wp_region_ext (by kernel_rfl) (by kernel_rfl) ?_
        repeat (go_big_quiet_step (fail))
        refine wpQuiet_nil ?_
        rintro _ ⟨v, rfl⟩
        have HBV := Hid.mk' (HB2.out.trans (v.2.mono HB2.out.size))
        have HZV := Hid.mk' (HZ2.out.below v.2)
        have HGV := Hid.mk' (HG2.out.below v.2)
        have HMV := Hid.mk' (HM2.out.below v.2)
        have HRV := Hid.mk' (HRG2.out.kept (below_grown v.2 none) (by simp) (by simp))
        obtain ⟨u, hu⟩ : ∃ u, v.1 = u := ⟨_, rfl⟩
        rw [hu] at HBV HZV HGV HMV HRV ⊢
        clear hu s0 s1 s2 s3 t0 t1 t2 t3 t4 ne v
        obtain ⟨q0, q1, q2, q3⟩ := HMV.out
        obtain ⟨⟨l0, l1, l2, l3, l4⟩, lz⟩ := HGV.out
        have HRW := Hid.mk' (HRV.out.kept (grown_s5 u (w.heap.size + 1) (.int .i64 (c m)) (.int .i64 m.x) (.int .i64 m.y) (.int .i64 m.d) (.int .i64 m.e)) (by simp; omega) (by simp))
        clear HRV
        go_wp2
        go_roundw
        case rel =>
          refine ⟨_, cnt2, ss ++ [m], ⟨c m, m⟩, HRW.out, HCO2.out, bel_s5 HBV.out (by omega) _ _ _ _ _, HZV.out.far (by omega), ⟨⟨by go_simp, by go_simp, by go_simp, by go_simp, by go_simp⟩, fun j => by go_simp⟩, HMT.out⟩
        case measure => rw [HRW.out.left_eq]; exact HLT.out
      · have hgz : ((G.c : Int) == 0) = false := by simpa using hG0
        obtain ⟨hg1, hgo⟩ : 1 ≤ G.c ∧ G.m.ok = true := by
          rcases HM.out with ⟨_, e⟩ | ⟨e1, e2, _⟩
          · rw [e] at hG0; exact absurd rfl hG0
          · exact ⟨e1, e2⟩
        by_cases hq : rkD G.m < rkD m
        · have dq : decide (rkD ⟨G.m.x, G.m.y, G.m.d, G.m.e⟩ < rkD ⟨m.x, m.y, m.d, m.e⟩) = true := decide_eq_true hq
          have HMT := Hid.mk' (HM.out.put hmo hcm (.inr hq))
          clear HM hG0 hq
          refine wp_region_ext (by kernel_rfl) (by kernel_rfl) ?_
          repeat (go_big_quiet_step (first | (go_at_call 58; exact ext_grows (rankDegI _ _ _ _ _ hmo)) | (go_at_call 58; exact ext_grows (rankDegI _ _ _ _ _ hgo))))
          refine wpQuiet_nil ?_
          rintro _ ⟨v, rfl⟩
          have HBV := Hid.mk' (HB2.out.trans (v.2.mono HB2.out.size))
          have HZV := Hid.mk' (HZ2.out.below v.2)
          have HGV := Hid.mk' (HG2.out.below v.2)
          have HMV := Hid.mk' (HM2.out.below v.2)
          have HRV := Hid.mk' (HRG2.out.kept (below_grown v.2 none) (by simp) (by simp))
          obtain ⟨u, hu⟩ : ∃ u, v.1 = u := ⟨_, rfl⟩
          rw [hu] at HBV HZV HGV HMV HRV ⊢
          clear hu s0 s1 s2 s3 t0 t1 t2 t3 t4 ne v
          obtain ⟨q0, q1, q2, q3⟩ := HMV.out
          obtain ⟨⟨l0, l1, l2, l3, l4⟩, lz⟩ := HGV.out
          have HRW := Hid.mk' (HRV.out.kept (grown_s5 u (w.heap.size + 1) (.int .i64 (c m)) (.int .i64 m.x) (.int .i64 m.y) (.int .i64 m.d) (.int .i64 m.e)) (by simp; omega) (by simp))
          clear HRV
          go_wp2
          go_roundw
          case rel =>
            refine ⟨_, cnt2, ss ++ [m], ⟨c m, m⟩, HRW.out, HCO2.out, bel_s5 HBV.out (by omega) _ _ _ _ _, HZV.out.far (by omega), ⟨⟨by go_simp, by go_simp, by go_simp, by go_simp, by go_simp⟩, fun j => by go_simp⟩, HMT.out⟩
          case measure => rw [HRW.out.left_eq]; exact HLT.out
        · have dq : decide (rkD ⟨G.m.x, G.m.y, G.m.d, G.m.e⟩ < rkD ⟨m.x, m.y, m.d, m.e⟩) = false := decide_eq_false hq
          have HMT := Hid.mk' (HM.out.keep hg1 hq)
          clear HM hG0 hq
          refine wp_region_ext (by kernel_rfl) (by kernel_rfl) ?_
          repeat (go_big_quiet_step (first | (go_at_call 58; exact ext_grows (rankDegI _ _ _ _ _ hmo)) | (go_at_call 58; exact ext_grows (rankDegI _ _ _ _ _ hgo))))
          refine wpQuiet_nil ?_
          rintro _ ⟨v, rfl⟩
          have HBV := Hid.mk' (HB2.out.trans (v.2.mono HB2.out.size))
          have HZV := Hid.mk' (HZ2.out.below v.2)
          have HGV := Hid.mk' (HG2.out.below v.2)
          have HRV := Hid.mk' (HRG2.out.kept (below_grown v.2 none) (by simp) (by simp))
          obtain ⟨u, hu⟩ : ∃ u, v.1 = u := ⟨_, rfl⟩
          rw [hu] at HBV HZV HGV HRV ⊢
          clear hu s0 s1 s2 s3 t0 t1 t2 t3 t4 ne v
          go_wp2
          go_roundw
          case rel => exact ⟨_, cnt2, ss ++ [m], G, HRV.out, HCO2.out, HBV.out, HZV.out, HGV.out, HMT.out⟩
          case measure => rw [HRV.out.left_eq]; exact HLT.out
set_option maxRecDepth 100000 in
set_option maxHeartbeats 8000000 in
theorem greatest2 (w : World) (b n : Nat) (c : M → Int) (h : SumR w b n c) :
    Calls Tryz.prog 44 #[.map (some b), .func (.func 59) #[] #[]] w fun r w' => ∃ G : T, r = .returned (.agg #[.int .i64 G.c, .int .i64 G.m.x, .int .i64 G.m.y, .int .i64 G.m.d, .int .i64 G.m.e]) ∧ Below w.heap.size w w' ∧ ∃ ss, Met rkL c ss G ∧ ∀ m : M, m.ok = true → (m ∈ ss ↔ c m ≠ 0) := by
  obtain ⟨D, hown, hc, hat, hks⟩ := h
  have hblt := hown.lt
  have HKS := Hid.mk' hks
  have HAT := Hid.mk' hat
  have HC := Hid.mk' hc
  have HO2 := Hid.mk' ((hown.alloc (.cells #[.int .i64 0, .int .i64 0, .int .i64 0, .int .i64 0, .int .i64 0] 46)).alloc (.cells #[.int .i64 0, .int .i64 0, .int .i64 0, .int .i64 0, .int .i64 0] 46))
  have HB0 := Hid.mk' (bel_two w (.cells #[.int .i64 0, .int .i64 0, .int .i64 0, .int .i64 0, .int .i64 0] 46) (.cells #[.int .i64 0, .int .i64 0, .int .i64 0, .int .i64 0, .int .i64 0] 46))
  have HZ0 := Hid.mk' ((Own5.box w 46 zeroT).below (bel_one _ (.cells #[.int .i64 0, .int .i64 0, .int .i64 0, .int .i64 0, .int .i64 0] 46)))
  have HG0 := Hid.mk' (Own5.box (w.alloc (.cells #[.int .i64 0, .int .i64 0, .int .i64 0, .int .i64 0, .int .i64 0] 46)) 46 zeroT)
  clear hks hat hown hc
  go_enter Tryz.func44, Tryz.ntmps44
  go_wp2_with (first
    | (at_range; refine wpList_range_own _ rfl _ 73 rfl 44 78 lawM Tryz.underlying73 _ b n D rfl HO2.out ?_; intro w0 hrg0 hg0 hs0)
    | go_in)
  have hs2 : ((w.alloc (.cells #[.int .i64 0, .int .i64 0, .int .i64 0, .int .i64 0, .int .i64 0] 46)).alloc (.cells #[.int .i64 0, .int .i64 0, .int .i64 0, .int .i64 0, .int .i64 0] 46)).heap.size = w.heap.size + 2 := by simp
  have HB1 := Hid.mk' (bel_grown HB0.out hg0 (by simp))
  have HZ1 := Hid.mk' (HZ0.out.grown hg0 (by simp))
  have HG1 := Hid.mk' (HG0.out.grown hg0 (by simp))
  have HRG := Hid.mk' hrg0
  rw [hs2] at HRG
  simp only [World.size_alloc] at HG1
  clear HB0 HZ0 HG0 HO2 hrg0 hg0 hs0
  go_frame
  rw [hs2]
  go_loopw [6] (fun _ wr => ∃ (left : Lit → Bool) (cnt : Nat) (ss : List M) (G : T), wr.ranges Tryz.prog 44 (plainElem Tryz.prog 78) b (w.heap.size + 2) n D left cnt ∧ CollM D left ss ∧ Below w.heap.size w wr ∧ Own5 wr w.heap.size zeroT ∧ Own5 wr (w.heap.size + 1) G ∧ Met rkL c ss G)
    (fun _ wr => wr.rangeLeft b (w.heap.size + 2))
  case atStart => exact ⟨_, _, [], zeroT, HRG.out, CollM.start D, HB1.out, HZ1.out, HG1.out, .inl ⟨rfl, rfl⟩⟩
  case round =>
    obtain ⟨left, cnt, ss, G, hrg, hC, hB, hZ, hG, hM⟩ := hrel
    have HCO := Hid.mk' hC
    have HB := Hid.mk' hB
    have HZ := Hid.mk' hZ
    have HGG := Hid.mk' hG
    have HM := Hid.mk' hM
    have HRR := Hid.mk' hrg
    have hGl : w.heap.size + 1 < wr.heap.size := hG.1.lt
    clear hC hB hZ hG hM
    go_wp2_with (first
      | (at_next; refine wpList_next_ranges _ rfl _ rfl 44 lawM (plainElem Tryz.prog 78) (id : Value → Value) (Value.int .i64) (fun key kl hk => ⟨key, rfl⟩) (fun v y hv => by obtain ⟨c, rfl, _⟩ := plainElem_int_inv Tryz.underlying78 hv; exact ⟨c, rfl⟩) b (w.heap.size + 2) n _ _ _ rfl HRR.out ?_ ?_)
      | go_in)
    · intro hc0 hl0
      obtain ⟨⟨z0, z1, z2, z3, z4⟩, fz⟩ := HZ.out
      obtain ⟨⟨l0, l1, l2, l3, l4⟩, _⟩ := HGG.out
      simp only [zeroT] at z0 z1 z2 z3 z4
      have HAL := Hid.mk' (HCO.out.all hl0 HAT.out)
      clear hl0 hrg HZ HGG
      go_wp2
      refine bodyPost_ret (v := .agg #[.int .i64 G.c, .int .i64 G.m.x, .int .i64 G.m.y, .int .i64 G.m.d, .int .i64 G.m.e]) (by simp [results, Tryz.results44, go_sem, *]) rfl ⟨G, rfl, ?_, ss, HM.out, HAL.out⟩
      exact bel_s5 HB.out (Nat.le_refl _) _ _ _ _ _
    · intro x cv kl yd yp w2 cnt2 hkey hlk hv hatx hrg2 hlt hg2 hsz2 hen
      obtain ⟨m, hmo, rfl⟩ := HKS.out kl (has_true_of_atKey hatx)
      obtain rfl : x = enM m := lawM.inj hkey (keyOfM hmo)
      obtain rfl : cv = c m := by
        obtain ⟨c', e, e2, _⟩ := plainElem_int_inv Tryz.underlying78 hv
        cases e
        cases e2
        have h1 := (HAT.out m hmo).1
        rw [hatx] at h1
        simpa using h1
      have hcm : 1 ≤ c m := by
        have h1 := (HAT.out m hmo).2.1 (has_true_of_atKey hatx)
        have h2 := (HC.out m).1
        omega
      have hcm2 := (HC.out m).2
      have HRG2 := Hid.mk' (hrg2.alloc (.cells #[.int .i64 m.x, .int .i64 m.y, .int .i64 m.d, .int .i64 m.e] 44))
      have HLT := Hid.mk' (show cnt2 < wr.rangeLeft b (w.heap.size + 2) by rw [hrg.left_eq]; exact hlt)
      have HCO2 := Hid.mk' (HCO.out.step hmo hlk hatx)
      have hB2 := bel_grown HB.out hg2 (fun k e => by cases e; omega)
      have HB2 := Hid.mk' (hB2.alloc hB2.size (.cells #[.int .i64 m.x, .int .i64 m.y, .int .i64 m.d, .int .i64 m.e] 44))
      have HZ2 := Hid.mk' ((HZ.out.grown hg2 (by simp)).below (bel_one w2 (.cells #[.int .i64 m.x, .int .i64 m.y, .int .i64 m.d, .int .i64 m.e] 44)))
      have HG2 := Hid.mk' ((HGG.out.grown hg2 (by simp)).below (bel_one w2 (.cells #[.int .i64 m.x, .int .i64 m.y, .int .i64 m.d, .int .i64 m.e] 44)))
      have HM2 := Hid.mk' (M4.box w2 44 m.x m.y m.d m.e)
      have hsw : w.heap.size + 1 < w2.heap.size := by rw [hsz2]; exact hGl
      have hrw : w.heap.size + 2 < w2.heap.size := hrg2.lt
      have hbw : b < w2.heap.size := hrg2.owns.lt
      clear hlk hatx hrg hrg2 hlt hg2 hsz2 hkey hv hB2 HRR HB HZ HGG HCO hGl
      go_wp2_with fail
      generalize (w2.alloc (.cells #[.int .i64 m.x, .int .i64 m.y, .int .i64 m.d, .int .i64 m.e] 44)) = wq at HRG2 HB2 HZ2 HG2 HM2 ⊢
      have ne := Ext.there wq
      have s0 : ∀ u : Ext wq, u.1.cell? ⟨w2.heap.size, 0, none⟩ = some (.int .i64 m.x) := fun u => (u.cell HM2.out.lt).trans HM2.out.1
      have s1 : ∀ u : Ext wq, u.1.cell? ⟨w2.heap.size, 1, none⟩ = some (.int .i64 m.y) := fun u => (u.cell HM2.out.lt).trans HM2.out.2.1
      have s2 : ∀ u : Ext wq, u.1.cell? ⟨w2.heap.size, 2, none⟩ = some (.int .i64 m.d) := fun u => (u.cell HM2.out.lt).trans HM2.out.2.2.1
      have s3 : ∀ u : Ext wq, u.1.cell? ⟨w2.heap.size, 3, none⟩ = some (.int .i64 m.e) := fun u => (u.cell HM2.out.lt).trans HM2.out.2.2.2
      have t0 : ∀ u : Ext wq, u.1.cell? ⟨w.heap.size + 1, 0, none⟩ = some (.int .i64 G.c) := fun u => (u.cell HG2.out.1.lt).trans HG2.out.1.1
      have t1 : ∀ u : Ext wq, u.1.cell? ⟨w.heap.size + 1, 1, none⟩ = some (.int .i64 G.m.x) := fun u => (u.cell HG2.out.1.lt).trans HG2.out.1.2.1
      have t2 : ∀ u : Ext wq, u.1.cell? ⟨w.heap.size + 1, 2, none⟩ = some (.int .i64 G.m.y) := fun u => (u.cell HG2.out.1.lt).trans HG2.out.1.2.2.1
      have t3 : ∀ u : Ext wq, u.1.cell? ⟨w.heap.size + 1, 3, none⟩ = some (.int .i64 G.m.d) := fun u => (u.cell HG2.out.1.lt).trans HG2.out.1.2.2.2.1
      have t4 : ∀ u : Ext wq, u.1.cell? ⟨w.heap.size + 1, 4, none⟩ = some (.int .i64 G.m.e) := fun u => (u.cell HG2.out.1.lt).trans HG2.out.1.2.2.2.2
      by_cases hG0 : G.c = 0
      · have hgz : ((G.c : Int) == 0) = true := by simpa using hG0
        have HMT := Hid.mk' (HM.out.put hmo hcm (.inl hG0))
        clear HM hG0
        refine wp_region_ext (by kernel_rfl) (by kernel_rfl) ?_
        repeat (go_big_quiet_step (fail))
        refine wpQuiet_nil ?_
        rintro _ ⟨v, rfl⟩
        have HBV := Hid.mk' (HB2.out.trans (v.2.mono HB2.out.size))
        have HZV := Hid.mk' (HZ2.out.below v.2)
        have HGV := Hid.mk' (HG2.out.below v.2)
        have HMV := Hid.mk' (HM2.out.below v.2)
        have HRV := Hid.mk' (HRG2.out.kept (below_grown v.2 none) (by simp) (by simp))
        obtain ⟨u, hu⟩ : ∃ u, v.1 = u := ⟨_, rfl⟩
        rw [hu] at HBV HZV HGV HMV HRV ⊢
        clear hu s0 s1 s2 s3 t0 t1 t2 t3 t4 ne v
        obtain ⟨q0, q1, q2, q3⟩ := HMV.out
        obtain ⟨⟨l0, l1, l2, l3, l4⟩, lz⟩ := HGV.out
        have HRW := Hid.mk' (HRV.out.kept (grown_s5 u (w.heap.size + 1) (.int .i64 (c m)) (.int .i64 m.x) (.int .i64 m.y) (.int .i64 m.d) (.int .i64 m.e)) (by simp; omega) (by simp))
        clear HRV
        go_wp2
        go_roundw
        case rel =>
          refine ⟨_, cnt2, ss ++ [m], ⟨c m, m⟩, HRW.out, HCO2.out, bel_s5 HBV.out (by omega) _ _ _ _ _, HZV.out.far (by omega), ⟨⟨by go_simp, by go_simp, by go_simp, by go_simp, by go_simp⟩, fun j => by go_simp⟩, HMT.out⟩
        case measure => rw [HRW.out.left_eq]; exact HLT.out
      · have hgz : ((G.c : Int) == 0) = false := by simpa using hG0
        obtain ⟨hg1, hgo⟩ : 1 ≤ G.c ∧ G.m.ok = true := by
          rcases HM.out with ⟨_, e⟩ | ⟨e1, e2, _⟩
          · rw [e] at hG0; exact absurd rfl hG0
          · exact ⟨e1, e2⟩
        by_cases hq : rkL G.m < rkL m
        · have dq : decide (rkL ⟨G.m.x, G.m.y, G.m.d, G.m.e⟩ < rkL ⟨m.x, m.y, m.d, m.e⟩) = true := decide_eq_true hq
          have HMT := Hid.mk' (HM.out.put hmo hcm (.inr hq))
          clear HM hG0 hq
          refine wp_region_ext (by kernel_rfl) (by kernel_rfl) ?_
          repeat (go_big_quiet_step (first | (go_at_call 59; exact ext_grows (rankLexI _ _ _ _ _ hmo)) | (go_at_call 59; exact ext_grows (rankLexI _ _ _ _ _ hgo))))
          refine wpQuiet_nil ?_
          rintro _ ⟨v, rfl⟩
          have HBV := Hid.mk' (HB2.out.trans (v.2.mono HB2.out.size))
          have HZV := Hid.mk' (HZ2.out.below v.2)
          have HGV := Hid.mk' (HG2.out.below v.2)
          have HMV := Hid.mk' (HM2.out.below v.2)
          have HRV := Hid.mk' (HRG2.out.kept (below_grown v.2 none) (by simp) (by simp))
          obtain ⟨u, hu⟩ : ∃ u, v.1 = u := ⟨_, rfl⟩
          rw [hu] at HBV HZV HGV HMV HRV ⊢
          clear hu s0 s1 s2 s3 t0 t1 t2 t3 t4 ne v
          obtain ⟨q0, q1, q2, q3⟩ := HMV.out
          obtain ⟨⟨l0, l1, l2, l3, l4⟩, lz⟩ := HGV.out
          have HRW := Hid.mk' (HRV.out.kept (grown_s5 u (w.heap.size + 1) (.int .i64 (c m)) (.int .i64 m.x) (.int .i64 m.y) (.int .i64 m.d) (.int .i64 m.e)) (by simp; omega) (by simp))
          clear HRV
          go_wp2
          go_roundw
          case rel =>
            refine ⟨_, cnt2, ss ++ [m], ⟨c m, m⟩, HRW.out, HCO2.out, bel_s5 HBV.out (by omega) _ _ _ _ _, HZV.out.far (by omega), ⟨⟨by go_simp, by go_simp, by go_simp, by go_simp, by go_simp⟩, fun j => by go_simp⟩, HMT.out⟩
          case measure => rw [HRW.out.left_eq]; exact HLT.out
        · have dq : decide (rkL ⟨G.m.x, G.m.y, G.m.d, G.m.e⟩ < rkL ⟨m.x, m.y, m.d, m.e⟩) = false := decide_eq_false hq
          have HMT := Hid.mk' (HM.out.keep hg1 hq)
          clear HM hG0 hq
          refine wp_region_ext (by kernel_rfl) (by kernel_rfl) ?_
          repeat (go_big_quiet_step (first | (go_at_call 59; exact ext_grows (rankLexI _ _ _ _ _ hmo)) | (go_at_call 59; exact ext_grows (rankLexI _ _ _ _ _ hgo))))
          refine wpQuiet_nil ?_
          rintro _ ⟨v, rfl⟩
          have HBV := Hid.mk' (HB2.out.trans (v.2.mono HB2.out.size))
          have HZV := Hid.mk' (HZ2.out.below v.2)
          have HGV := Hid.mk' (HG2.out.below v.2)
          have HRV := Hid.mk' (HRG2.out.kept (below_grown v.2 none) (by simp) (by simp))
          obtain ⟨u, hu⟩ : ∃ u, v.1 = u := ⟨_, rfl⟩
          rw [hu] at HBV HZV HGV HRV ⊢
          clear hu s0 s1 s2 s3 t0 t1 t2 t3 t4 ne v
          go_wp2
          go_roundw
          case rel => exact ⟨_, cnt2, ss ++ [m], G, HRV.out, HCO2.out, HBV.out, HZV.out, HGV.out, HMT.out⟩
          case measure => rw [HRV.out.left_eq]; exact HLT.out
--@END
set_option maxRecDepth 100000 in
set_option maxHeartbeats 8000000 in
theorem greatest3 (w : World) (b n : Nat) (c : M → Int) (h : SumR w b n c) :
    Calls Tryz.prog 44 #[.map (some b), .func (.func 60) #[] #[]] w fun r w' => ∃ G : T, r = .returned (.agg #[.int .i64 G.c, .int .i64 G.m.x, .int .i64 G.m.y, .int .i64 G.m.d, .int .i64 G.m.e]) ∧ Below w.heap.size w w' ∧ ∃ ss, Met rkO c ss G ∧ ∀ m : M, m.ok = true → (m ∈ ss ↔ c m ≠ 0) := by
  obtain ⟨D, hown, hc, hat, hks⟩ := h
  have hblt := hown.lt
  have HKS := Hid.mk' hks
  have HAT := Hid.mk' hat
  have HC := Hid.mk' hc
  have HO2 := Hid.mk' ((hown.alloc (.cells #[.int .i64 0, .int .i64 0, .int .i64 0, .int .i64 0, .int .i64 0] 46)).alloc (.cells #[.int .i64 0, .int .i64 0, .int .i64 0, .int .i64 0, .int .i64 0] 46))
  have HB0 := Hid.mk' (bel_two w (.cells #[.int .i64 0, .int .i64 0, .int .i64 0, .int .i64 0, .int .i64 0] 46) (.cells #[.int .i64 0, .int .i64 0, .int .i64 0, .int .i64 0, .int .i64 0] 46))
  have HZ0 := Hid.mk' ((Own5.box w 46 zeroT).below (bel_one _ (.cells #[.int .i64 0, .int .i64 0, .int .i64 0, .int .i64 0, .int .i64 0] 46)))
  have HG0 := Hid.mk' (Own5.box (w.alloc (.cells #[.int .i64 0, .int .i64 0, .int .i64 0, .int .i64 0, .int .i64 0] 46)) 46 zeroT)
  clear hks hat hown hc
  go_enter Tryz.func44, Tryz.ntmps44
  go_wp2_with (first
    | (at_range; refine wpList_range_own _ rfl _ 73 rfl 44 78 lawM Tryz.underlying73 _ b n D rfl HO2.out ?_; intro w0 hrg0 hg0 hs0)
    | go_in)
  have hs2 : ((w.alloc (.cells #[.int .i64 0, .int .i64 0, .int .i64 0, .int .i64 0, .int .i64 0] 46)).alloc (.cells #[.int .i64 0, .int .i64 0, .int .i64 0, .int .i64 0, .int .i64 0] 46)).heap.size = w.heap.size + 2 := by simp
  have HB1 := Hid.mk' (bel_grown HB0.out hg0 (by simp))
  have HZ1 := Hid.mk' (HZ0.out.grown hg0 (by simp))
  have HG1 := Hid.mk' (HG0.out.grown hg0 (by simp))
  have HRG := Hid.mk' hrg0
  rw [hs2] at HRG
  simp only [World.size_alloc] at HG1
  clear HB0 HZ0 HG0 HO2 hrg0 hg0 hs0
  go_frame
  rw [hs2]
  go_loopw [6] (fun _ wr => ∃ (left : Lit → Bool) (cnt : Nat) (ss : List M) (G : T), wr.ranges Tryz.prog 44 (plainElem Tryz.prog 78) b (w.heap.size + 2) n D left cnt ∧ CollM D left ss ∧ Below w.heap.size w wr ∧ Own5 wr w.heap.size zeroT ∧ Own5 wr (w.heap.size + 1) G ∧ Met rkO c ss G)
    (fun _ wr => wr.rangeLeft b (w.heap.size + 2))
  case atStart => exact ⟨_, _, [], zeroT, HRG.out, CollM.start D, HB1.out, HZ1.out, HG1.out, .inl ⟨rfl, rfl⟩⟩
  case round =>
    obtain ⟨left, cnt, ss, G, hrg, hC, hB, hZ, hG, hM⟩ := hrel
    have HCO := Hid.mk' hC
    have HB := Hid.mk' hB
    have HZ := Hid.mk' hZ
    have HGG := Hid.mk' hG
    have HM := Hid.mk' hM
    have HRR := Hid.mk' hrg
    have hGl : w.heap.size + 1 < wr.heap.size := hG.1.lt
    clear hC hB hZ hG hM
    go_wp2_with (first
      | (at_next; refine wpList_next_ranges _ rfl _ rfl 44 lawM (plainElem Tryz.prog 78) (id : Value → Value) (Value.int .i64) (fun key kl hk => ⟨key, rfl⟩) (fun v y hv => by obtain ⟨c, rfl, _⟩ := plainElem_int_inv Tryz.underlying78 hv; exact ⟨c, rfl⟩) b (w.heap.size + 2) n _ _ _ rfl HRR.out ?_ ?_)
      | go_in)
    · intro hc0 hl0
      obtain ⟨⟨z0, z1, z2, z3, z4⟩, fz⟩ := HZ.out
      obtain ⟨⟨l0, l1, l2, l3, l4⟩, _⟩ := HGG.out
      simp only [zeroT] at z0 z1 z2 z3 z4
      have HAL := Hid.mk' (HCO.out.all hl0 HAT.out)
      clear hl0 hrg HZ HGG
      go_wp2
      refine bodyPost_ret (v := .agg #[.int .i64 G.c, .int .i64 G.m.x, .int .i64 G.m.y, .int .i64 G.m.d, .int .i64 G.m.e]) (by simp [results, Tryz.results44, go_sem, *]) rfl ⟨G, rfl, ?_, ss, HM.out, HAL.out⟩
      exact bel_s5 HB.out (Nat.le_refl _) _ _ _ _ _
    · intro x cv kl yd yp w2 cnt2 hkey hlk hv hatx hrg2 hlt hg2 hsz2 hen
      obtain ⟨m, hmo, rfl⟩ := HKS.out kl (has_true_of_atKey hatx)
      obtain rfl : x = enM m := lawM.inj hkey (keyOfM hmo)
      obtain rfl : cv = c m := by
        obtain ⟨c', e, e2, _⟩ := plainElem_int_inv Tryz.underlying78 hv
        cases e
        cases e2
        have h1 := (HAT.out m hmo).1
        rw [hatx] at h1
        simpa using h1
      have hcm : 1 ≤ c m := by
        have h1 := (HAT.out m hmo).2.1 (has_true_of_atKey hatx)
        have h2 := (HC.out m).1
        omega
      have hcm2 := (HC.out m).2
      have HRG2 := Hid.mk' (hrg2.alloc (.cells #[.int .i64 m.x, .int .i64 m.y, .int .i64 m.d, .int .i64 m.e] 44))
      have HLT := Hid.mk' (show cnt2 < wr.rangeLeft b (w.heap.size + 2) by rw [hrg.left_eq]; exact hlt)
      have HCO2 := Hid.mk' (HCO.out.step hmo hlk hatx)
      have hB2 := bel_grown HB.out hg2 (fun k e => by cases e; omega)
      have HB2 := Hid.mk' (hB2.alloc hB2.size (.cells #[.int .i64 m.x, .int .i64 m.y, .int .i64 m.d, .int .i64 m.e] 44))
      have HZ2 := Hid.mk' ((HZ.out.grown hg2 (by simp)).below (bel_one w2 (.cells #[.int .i64 m.x, .int .i64 m.y, .int .i64 m.d, .int .i64 m.e] 44)))
      have HG2 := Hid.mk' ((HGG.out.grown hg2 (by simp)).below (bel_one w2 (.cells #[.int .i64 m.x, .int .i64 m.y, .int .i64 m.d, .int .i64 m.e] 44)))
      have HM2 := Hid.mk' (M4.box w2 44 m.x m.y m.d m.e)
      have hsw : w.heap.size + 1 < w2.heap.size := by rw [hsz2]; exact hGl
      have hrw : w.heap.size + 2 < w2.heap.size := hrg2.lt
      have hbw : b < w2.heap.size := hrg2.owns.lt
      clear hlk hatx hrg hrg2 hlt hg2 hsz2 hkey hv hB2 HRR HB HZ HGG HCO hGl
      go_wp2_with fail
      generalize (w2.alloc (.cells #[.int .i64 m.x, .int .i64 m.y, .int .i64 m.d, .int .i64 m.e] 44)) = wq at HRG2 HB2 HZ2 HG2 HM2 ⊢
      have ne := Ext.there wq
      have s0 : ∀ u : Ext wq, u.1.cell? ⟨w2.heap.size, 0, none⟩ = some (.int .i64 m.x) := fun u => (u.cell HM2.out.lt).trans HM2.out.1
      have s1 : ∀ u : Ext wq, u.1.cell? ⟨w2.heap.size, 1, none⟩ = some (.int .i64 m.y) := fun u => (u.cell HM2.out.lt).trans HM2.out.2.1
      have s2 : ∀ u : Ext wq, u.1.cell? ⟨w2.heap.size, 2, none⟩ = some (.int .i64 m.d) := fun u => (u.cell HM2.out.lt).trans HM2.out.2.2.1
      have s3 : ∀ u : Ext wq, u.1.cell? ⟨w2.heap.size, 3, none⟩ = some (.int .i64 m.e) := fun u => (u.cell HM2.out.lt).trans HM2.out.2.2.2
      have t0 : ∀ u : Ext wq, u.1.cell? ⟨w.heap.size + 1, 0, none⟩ = some (.int .i64 G.c) := fun u => (u.cell HG2.out.1.lt).trans HG2.out.1.1
      have t1 : ∀ u : Ext wq, u.1.cell? ⟨w.heap.size + 1, 1, none⟩ = some (.int .i64 G.m.x) := fun u => (u.cell HG2.out.1.lt).trans HG2.out.1.2.1
      have t2 : ∀ u : Ext wq, u.1.cell? ⟨w.heap.size + 1, 2, none⟩ = some (.int .i64 G.m.y) := fun u => (u.cell HG2.out.1.lt).trans HG2.out.1.2.2.1
      have t3 : ∀ u : Ext wq, u.1.cell? ⟨w.heap.size + 1, 3, none⟩ = some (.int .i64 G.m.d) := fun u => (u.cell HG2.out.1.lt).trans HG2.out.1.2.2.2.1
      have t4 : ∀ u : Ext wq, u.1.cell? ⟨w.heap.size + 1, 4, none⟩ = some (.int .i64 G.m.e) := fun u => (u.cell HG2.out.1.lt).trans HG2.out.1.2.2.2.2
      by_cases hG0 : G.c = 0
      · have hgz : ((G.c : Int) == 0) = true := by simpa using hG0
        have HMT := Hid.mk' (HM.out.put hmo hcm (.inl hG0))
        clear HM hG0
        refine wp_region_ext (by kernel_rfl) (by kernel_rfl) ?_
        repeat (go_big_quiet_step (fail))
        refine wpQuiet_nil ?_
        rintro _ ⟨v, rfl⟩
        have HBV := Hid.mk' (HB2.out.trans (v.2.mono HB2.out.size))
        have HZV := Hid.mk' (HZ2.out.below v.2)
        have HGV := Hid.mk' (HG2.out.below v.2)
        have HMV := Hid.mk' (HM2.out.below v.2)
        have HRV := Hid.mk' (HRG2.out.kept (below_grown v.2 none) (by simp) (by simp))
        obtain ⟨u, hu⟩ : ∃ u, v.1 = u := ⟨_, rfl⟩
        rw [hu] at HBV HZV HGV HMV HRV ⊢
        clear hu s0 s1 s2 s3 t0 t1 t2 t3 t4 ne v
        obtain ⟨q0, q1, q2, q3⟩ := HMV.out
        obtain ⟨⟨l0, l1, l2, l3, l4⟩, lz⟩ := HGV.out
        have HRW := Hid.mk' (HRV.out.kept (grown_s5 u (w.heap.size + 1) (.int .i64 (c m)) (.int .i64 m.x) (.int .i64 m.y) (.int .i64 m.d) (.int .i64 m.e)) (by simp; omega) (by simp))
        clear HRV
        go_wp2
        go_roundw
        case rel =>
          refine ⟨_, cnt2, ss ++ [m], ⟨c m, m⟩, HRW.out, HCO2.out, bel_s5 HBV.out (by omega) _ _ _ _ _, HZV.out.far (by omega), ⟨⟨by go_simp, by go_simp, by go_simp, by go_simp, by go_simp⟩, fun j => by go_simp⟩, HMT.out⟩
        case measure => rw [HRW.out.left_eq]; exact HLT.out
      · have hgz : ((G.c : Int) == 0) = false := by simpa using hG0
        obtain ⟨hg1, hgo⟩ : 1 ≤ G.c ∧ G.m.ok = true := by
          rcases HM.out with ⟨_, e⟩ | ⟨e1, e2, _⟩
          · rw [e] at hG0; exact absurd rfl hG0
          · exact ⟨e1, e2⟩
        by_cases hq : rkO G.m < rkO m
        · have dq : decide (rkO ⟨G.m.x, G.m.y, G.m.d, G.m.e⟩ < rkO ⟨m.x, m.y, m.d, m.e⟩) = true := decide_eq_true hq
          have HMT := Hid.mk' (HM.out.put hmo hcm (.inr hq))
          clear HM hG0 hq
          refine wp_region_ext (by kernel_rfl) (by kernel_rfl) ?_
          repeat (go_big_quiet_step (first | (go_at_call 60; exact ext_grows (rankOutI _ _ _ _ _ hmo)) | (go_at_call 60; exact ext_grows (rankOutI _ _ _ _ _ hgo))))
          refine wpQuiet_nil ?_
          rintro _ ⟨v, rfl⟩
          have HBV := Hid.mk' (HB2.out.trans (v.2.mono HB2.out.size))
          have HZV := Hid.mk' (HZ2.out.below v.2)
          have HGV := Hid.mk' (HG2.out.below v.2)
          have HMV := Hid.mk' (HM2.out.below v.2)
          have HRV := Hid.mk' (HRG2.out.kept (below_grown v.2 none) (by simp) (by simp))
          obtain ⟨u, hu⟩ : ∃ u, v.1 = u := ⟨_, rfl⟩
          rw [hu] at HBV HZV HGV HMV HRV ⊢
          clear hu s0 s1 s2 s3 t0 t1 t2 t3 t4 ne v
          obtain ⟨q0, q1, q2, q3⟩ := HMV.out
          obtain ⟨⟨l0, l1, l2, l3, l4⟩, lz⟩ := HGV.out
          have HRW := Hid.mk' (HRV.out.kept (grown_s5 u (w.heap.size + 1) (.int .i64 (c m)) (.int .i64 m.x) (.int .i64 m.y) (.int .i64 m.d) (.int .i64 m.e)) (by simp; omega) (by simp))
          clear HRV
          go_wp2
          go_roundw
          case rel =>
            refine ⟨_, cnt2, ss ++ [m], ⟨c m, m⟩, HRW.out, HCO2.out, bel_s5 HBV.out (by omega) _ _ _ _ _, HZV.out.far (by omega), ⟨⟨by go_simp, by go_simp, by go_simp, by go_simp, by go_simp⟩, fun j => by go_simp⟩, HMT.out⟩
          case measure => rw [HRW.out.left_eq]; exact HLT.out
        · have dq : decide (rkO ⟨G.m.x, G.m.y, G.m.d, G.m.e⟩ < rkO ⟨m.x, m.y, m.d, m.e⟩) = false := decide_eq_false hq
          have HMT := Hid.mk' (HM.out.keep hg1 hq)
          clear HM hG0 hq
          refine wp_region_ext (by kernel_rfl) (by kernel_rfl) ?_
          repeat (go_big_quiet_step (first | (go_at_call 60; exact ext_grows (rankOutI _ _ _ _ _ hmo)) | (go_at_call 60; exact ext_grows (rankOutI _ _ _ _ _ hgo))))
          refine wpQuiet_nil ?_
          rintro _ ⟨v, rfl⟩
          have HBV := Hid.mk' (HB2.out.trans (v.2.mono HB2.out.size))
          have HZV := Hid.mk' (HZ2.out.below v.2)
          have HGV := Hid.mk' (HG2.out.below v.2)
          have HRV := Hid.mk' (HRG2.out.kept (below_grown v.2 none) (by simp) (by simp))
          obtain ⟨u, hu⟩ : ∃ u, v.1 = u := ⟨_, rfl⟩
          rw [hu] at HBV HZV HGV HRV ⊢
          clear hu s0 s1 s2 s3 t0 t1 t2 t3 t4 ne v
          go_wp2
          go_roundw
          case rel => exact ⟨_, cnt2, ss ++ [m], G, HRV.out, HCO2.out, HBV.out, HZV.out, HGV.out, HMT.out⟩
          case measure => rw [HRV.out.left_eq]; exact HLT.out
--@END
/-- the number of the rank's function. -/
def rkF (o : Int) : Nat := if o = 1 then 58 else if o = 3 then 60 else 59
theorem rkW1 : rkW 1 = rkD := by funext m; rfl
theorem rkW2 : rkW 2 = rkL := by funext m; rfl
theorem rkW3 : rkW 3 = rkO := by funext m; rfl
theorem greatestI (o : Int) (ho : 1 ≤ o ∧ o ≤ 3) (w : World) (b n : Nat) (p : List T) (h : SumR w b n (coef p)) (hp : okL p = true) (h0 : p.length ≠ 0) (t : T) (ht : ldL o p = t) :
    Calls Tryz.prog 44 #[.map (some b), .func (.func (rkF o)) #[] #[]] w fun r w' => r = .returned (.agg #[.int .i64 t.c, .int .i64 t.m.x, .int .i64 t.m.y, .int .i64 t.m.d, .int .i64 t.m.e]) ∧ Below w.heap.size w w' := by
  have ho3 : o = 1 ∨ o = 2 ∨ o = 3 := by omega
  rcases ho3 with rfl | rfl | rfl
  · refine (greatest1 w b n (coef p) h).mono ?_
    rintro r w' ⟨G, rfl, hb, ss, hm, hs⟩
    rw [← rkW1] at hm
    have := hm.all ho hp h0 hs
    rw [ht] at this
    subst this
    exact ⟨rfl, hb⟩
  · refine (greatest2 w b n (coef p) h).mono ?_
    rintro r w' ⟨G, rfl, hb, ss, hm, hs⟩
    rw [← rkW2] at hm
    have := hm.all ho hp h0 hs
    rw [ht] at this
    subst this
    exact ⟨rfl, hb⟩
  · refine (greatest3 w b n (coef p) h).mono ?_
    rintro r w' ⟨G, rfl, hb, ss, hm, hs⟩
    rw [← rkW3] at hm
    have := hm.all ho hp h0 hs
    rw [ht] at this
    subst this
    exact ⟨rfl, hb⟩
theorem ordRankV (o : Int) (w : World) (h1 : 1 ≤ o) (h2 : o ≤ 3) : Calls Tryz.prog 39 #[.int .i64 o] w fun r w' => r = .returned (.tuple #[.func (.func (rkF o)) #[] #[], .bool true]) ∧ Below w.heap.size w w' := by
  have ho3 : o = 1 ∨ o = 2 ∨ o = 3 := by omega
  rcases ho3 with rfl | rfl | rfl
  · exact ordRankI1 w
  · exact ordRankI2 w
  · exact ordRankI3 w
end Go.Proofs.YtkoaiogakkldgaaGreat
