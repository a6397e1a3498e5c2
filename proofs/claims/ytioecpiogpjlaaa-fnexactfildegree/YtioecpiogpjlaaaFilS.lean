/-
  Tops: the model.
-/
import Derived.Test.YtioecpiogpjlaaaFil
namespace Go.Proofs.Ytioecpiogpjlaaa
open Go.RowKit
set_option linter.unusedVariables false

theorem mx_if (a b : Int) : mx a b = if a < b then b else a := by unfold mx; split <;> split <;> omega
theorem mostL_succ (q : M → Int) (f : Nat → T) (k : Nat) : mostL q f (k + 1) = mx (mostL q f k) (q (f k).m) := by rw [mx_if]; rfl
theorem ord_deg {a b : M} (h : 0 < M.ord 1 a b) : b.deg ≤ a.deg := by
  unfold M.ord at h
  by_cases he : a.deg = b.deg
  · omega
  · rw [if_pos ⟨rfl, he⟩] at h
    unfold c3 at h
    split at h
    · omega
    · omega
theorem deg_ok {m : M} (h : m.ok = true) : m.deg = dgr m := by simp [M.deg, dgr, h]
theorem most_deg {n : Nat} {f : Nat → T} (hp : polOk n f = true) : ∀ i, i < n → mostL dgr f (i + 1) = dgr (f 0).m ∧ dgr (f i).m ≤ dgr (f 0).m
  | 0, h => by
    have hm := M.ok_iff.1 (polOk_m hp 0 h)
    refine ⟨?_, Int.le_refl _⟩
    show (if (-1 : Int) < dgr (f 0).m then dgr (f 0).m else -1) = _
    rw [if_pos (by unfold dgr; omega)]
  | i + 1, h => by
    obtain ⟨h1, h2⟩ := most_deg hp i (by omega)
    have hm := polOk_m hp
    have ho : okAt f (i + 1) = true := by have hh := hp; simp only [polOk, decide_eq_true_eq] at hh; exact hh.2 (i + 1) h
    simp only [okAt, Bool.and_eq_true, Bool.or_eq_true, decide_eq_true_eq, Nat.add_sub_cancel] at ho
    have h3 := ord_deg (ho.2.resolve_left (by omega))
    rw [deg_ok (hm _ h), deg_ok (hm i (by omega))] at h3
    have h4 : dgr (f (i + 1)).m ≤ dgr (f 0).m := by omega
    refine ⟨?_, h4⟩
    rw [mostL, h1, if_neg (by omega)]
set_option maxHeartbeats 2000000 in
theorem filDegreeS (w : World) (a : Option Addr) (n cap : Nat) (f : Nat → T) (h : Rd w a n cap f) :
    Calls Try.prog 18 #[.slice a n cap] w fun r w' => r = .returned (.int .i64 (filDegree n f)) ∧ Below w.heap.size w w' := by
  have HA := Hid.mk' h
  have hn : (n : Int) ≤ 140737488351232 := by have := h.2.1; omega
  clear h
  cases hp : polOk n f
  · have e1 : filDegree n f = -1 := by simp [filDegree, filMost, hp]
    rw [e1]
    go_enter Try.func18, Try.ntmps18
    go_wp2_with (go_at_call 26; refine (polOkS _ _ _ _ f HA.out).mono ?_; rw [hp]; rintro r w1 ⟨rfl, hb1⟩; have HB1 := Hid.mk' hb1; clear hb1)
    go_ret
    exact ⟨rfl, HB1.out⟩
  · by_cases h0 : n = 0
    · subst h0
      have e1 : filDegree 0 f = -1 := by simp [filDegree, filMost, hp, mostL]
      rw [e1]
      go_enter Try.func18, Try.ntmps18
      go_wp2_with (go_at_call 26; refine (polOkS _ _ _ _ f HA.out).mono ?_; rw [hp]; rintro r w1 ⟨rfl, hb1⟩; have HB1 := Hid.mk' hb1; clear hb1)
      go_ret
      exact ⟨rfl, HB1.out⟩
    · have hm0 := polOk_m hp 0 (by omega)
      have e1 : filDegree n f = M.deg ⟨(f 0).m.x, (f 0).m.y, (f 0).m.d, (f 0).m.e⟩ := by
        have h1 := (most_deg hp (n - 1) (by omega)).1
        rw [show n - 1 + 1 = n by omega] at h1
        simp only [filDegree, filMost, hp, if_true]
        rw [h1]
        exact (deg_ok hm0).symm
      rw [e1]
      clear e1
      have hpos : (0 : Int) < (n : Int) := by omega
      have hne : ((n : Int) == 0) = false := by simp; omega
      go_enter Try.func18, Try.ntmps18
      go_wp2_with (first
        | (go_at_call 26; refine (polOkS _ _ _ _ f HA.out).mono ?_; rw [hp]; rintro r w1 ⟨rfl, hb1⟩; have HB1 := Hid.mk' hb1; have hc1 := ((HA.out.below hb1).2.2.resolve_left h0); obtain ⟨b, off, hpe, hblt, hcl⟩ := hc1; have hg := hcl 0 (by omega); rw [show off + 0 * 5 = off by omega] at hg; obtain ⟨g0, g1, g2, g3, g4⟩ := hg; subst hpe; clear hb1 hcl)
        | (go_at_call 42; refine (monDegS _ _ _ _ _).mono ?_; rintro r w2 ⟨rfl, hb2⟩))
      go_ret
      exact ⟨rfl, bel_next HB1.out hb2⟩
set_option maxRecDepth 100000 in
set_option maxHeartbeats 4000000 in
theorem filOrderS (w : World) (a : Option Addr) (n cap : Nat) (f : Nat → T) (h : Rd w a n cap f) :
    Calls Try.prog 16 #[.slice a n cap] w fun r w' => r = .returned (.int .i64 (filOrder n f)) ∧ Below w.heap.size w w' := by
  have HA := Hid.mk' h
  have hn : (n : Int) ≤ 140737488351232 := by have := h.2.1; omega
  clear h
  cases hp : polOk n f
  · have e1 : filOrder n f = -1 := by simp [filOrder, filMost, hp]
    rw [e1]
    go_enter Try.func16, Try.ntmps16
    go_wp2
    go_loopw [3, 4] (fun v ii wr => v = .int .i64 (-1) ∧ ii = .int .i64 0 ∧ Below w.heap.size w wr) (fun _ _ _ => 0)
    case atStart => exact ⟨rfl, rfl, Below.refl _ _⟩
    case round =>
      obtain ⟨rfl, rfl, hbl⟩ := hrel
      by_cases h0 : n = 0
      · subst h0
        go_wp2
        go_ret
        exact ⟨rfl, hbl⟩
      · have hpos : (0 : Int) < (n : Int) := by omega
        have HBL := Hid.mk' hbl
        clear hbl
        go_wp2_with (go_at_call 26; refine (polOkS _ _ _ _ f (HA.out.below HBL.out)).mono ?_; rw [hp]; rintro r w1 ⟨rfl, hb1⟩; have HB1 := Hid.mk' hb1; clear hb1)
        go_ret
        exact ⟨rfl, bel_next HBL.out HB1.out⟩
  · have e1 : filOrder n f = mostL slp f n := by simp [filOrder, filMost, hp]
    rw [e1]
    have HM := Hid.mk' (polOk_m hp)
    go_enter Try.func16, Try.ntmps16
    go_wp2
    go_loopw [3, 4] (fun v ii wr => ∃ k : Nat, k ≤ n ∧ v = .int .i64 (mostL slp f k) ∧ ii = .int .i64 (k : Int) ∧ Below w.heap.size w wr) (fun _ ii _ => n - (intOf ii).toNat)
    case atStart => exact ⟨0, Nat.zero_le _, rfl, rfl, Below.refl _ _⟩
    case round =>
      obtain ⟨k, hk, rfl, rfl, hbl⟩ := hrel
      by_cases hlt : k < n
      · have hkn : (k : Int) < (n : Int) := by omega
        obtain ⟨_, _, _, _, d1, d2, e1, e2⟩ := M.ok_iff.1 (HM.out k hlt)
        have HBL := Hid.mk' hbl
        clear hbl
        go_wp2_with (go_at_call 26; refine (polOkS _ _ _ _ f (HA.out.below HBL.out)).mono ?_; rw [hp]; rintro r w1 ⟨rfl, hb1⟩; have HB1 := Hid.mk' (bel_next HBL.out hb1); clear hb1)
        have hri := HA.out.below HB1.out
        rcases hri.2.2 with h0 | ⟨b, off, hpe, hblt, hcl⟩
        · omega
        have hck := hcl k hlt
        subst hpe
        have ne := Ext.there w1
        have s3 : ∀ u : Ext w1, u.1.cell? ⟨b, off + k * 5 + 3, none⟩ = some (.int .i64 (f k).m.d) := fun u => (u.cell hblt).trans hck.2.2.2.1
        have s4 : ∀ u : Ext w1, u.1.cell? ⟨b, off + k * 5 + 4, none⟩ = some (.int .i64 (f k).m.e) := fun u => (u.cell hblt).trans hck.2.2.2.2
        have HS := Hid.mk' (mostL_succ slp f k)
        clear hck hcl hri hp
        go_wp2_with fail
        refine wp_region_ext (by kernel_rfl) (by kernel_rfl) ?_
        repeat (go_big_quiet_step ((go_at_call 39; exact ext_same (maxS _ _ _))))
        refine wpQuiet_nil ?_
        rintro _ ⟨u, rfl⟩
        go_wp2
        go_roundw
        case rel => exact ⟨k + 1, by omega, by rw [HS.out]; rfl, by go_num, bel_next HB1.out u.2⟩
        case measure => simp [intOf]; omega
      · obtain rfl : k = n := by omega
        go_wp2
        go_ret
        exact ⟨rfl, hbl⟩
set_option maxRecDepth 100000 in
set_option maxHeartbeats 4000000 in
theorem filPartS (w : World) (a : Option Addr) (n cap : Nat) (f : Nat → T) (v : Int) (h : Rd w a n cap f) :
    Calls Try.prog 24 #[.slice a n cap, .int .i64 v] w fun r w' => ∃ v', r = .returned v' ∧ Below w.heap.size w w' ∧ w'.ownsRow w.heap.size 40 5 v' (filPart f n v).length (cellsL (filPart f n v)) := by
  obtain ⟨i0, hi0, hz0, hz1, hz2⟩ := info_parts infoT
  have HA := Hid.mk' h
  have hn : (n : Int) ≤ 140737488351232 := by have := h.2.1; omega
  have hO0 := owns_none w w.heap.size (Nat.le_refl _)
  have hB0 := bel_one w (.cells #[] 40)
  clear h
  cases hpa : polOk n f
  · have e1 : filPart f n v = [] := by simp [filPart, filWith, hpa]
    rw [e1]
    go_enter Try.func24, Try.ntmps24
    go_wp2
    generalize w.alloc (.cells #[] 40) = w0 at *
    go_loopw [5, 6] (fun v ii wr => ii = .int .i64 0 ∧ wr.ownsRow w.heap.size 40 5 v 0 (cellsL []) ∧ Below w.heap.size w wr) (fun _ _ _ => 0)
    case atStart => exact ⟨rfl, hO0, hB0⟩
    case round =>
      obtain ⟨rfl, hown, hbl⟩ := hrel
      by_cases h0 : n = 0
      · subst h0
        go_wp2
        go_ret
        exact ⟨_, rfl, hbl, hown⟩
      · have hpos : (0 : Int) < (n : Int) := by omega
        have HOWN := Hid.mk' hown
        have HBL := Hid.mk' hbl
        clear hown hbl
        go_wp2_with (go_at_call 26; refine (polOkS _ _ _ _ f (HA.out.below HBL.out)).mono ?_; rw [hpa]; rintro r w1 ⟨rfl, hb1⟩; have HB1 := Hid.mk' hb1; clear hb1)
        go_ret
        exact ⟨_, rfl, bel_next HBL.out HB1.out, owns_below HOWN.out HB1.out⟩
  · have e1 : filPart f n v = wantL (fun t => dgr t.m == v) f n := by simp [filPart, filWith, hpa]
    rw [e1]
    have l1 := polOk_n hpa
    have HM := Hid.mk' (polOk_m hpa)
    go_enter Try.func24, Try.ntmps24
    go_wp2
    generalize w.alloc (.cells #[] 40) = w0 at *
    go_loopw [5, 6] (fun v' ii wr => ∃ i : Nat, i ≤ n ∧ ii = .int .i64 (i : Int) ∧ wr.ownsRow w.heap.size 40 5 v' (wantL (fun t => dgr t.m == v) f i).length (cellsL (wantL (fun t => dgr t.m == v) f i)) ∧ Below w.heap.size w wr) (fun _ ii _ => n - (intOf ii).toNat)
    case atStart => exact ⟨0, Nat.zero_le _, rfl, hO0, hB0⟩
    case round =>
      obtain ⟨k, hi, rfl, hown, hbl⟩ := hrel
      by_cases hlt : k < n
      · have hil : (k : Int) < (n : Int) := by omega
        have hwl := wantL_len (fun t => dgr t.m == v) f k
        have hdg : M.deg ⟨(f k).m.x, (f k).m.y, (f k).m.d, (f k).m.e⟩ = dgr (f k).m := deg_ok (HM.out k hlt)
        have HOWN := Hid.mk' hown
        have HBL := Hid.mk' hbl
        clear hown hbl
        have hri := HA.out.below HBL.out
        rcases hri.2.2 with h0 | ⟨pb, off, hpe, hblt, hcl⟩
        · omega
        subst hpe
        clear hcl hri
        by_cases hv : dgr (f k).m = v
        · have hvb : (dgr (f k).m == v) = true := by simp [hv]
          have e2 : wantL (fun t => dgr t.m == v) f (k + 1) = wantL (fun t => dgr t.m == v) f k ++ [f k] := by simp [wantL, hv]
          have HE := Hid.mk' e2
          clear e2 hv
          generalize hWL : wantL (fun t => dgr t.m == v) f k = L at *
          go_wp2_with (first
            | (go_at_call 26; refine (polOkS _ _ _ _ f (HA.out.below HBL.out)).mono ?_; rw [hpa]; rintro r w1 ⟨rfl, hb1⟩; have HB1 := Hid.mk' hb1; have HB1w := Hid.mk' (bel_next HBL.out hb1); have hr1 := HA.out.below HB1w.out; have hc1 := (hr1.2.2.resolve_left (by omega)); obtain ⟨pb', off', hpe', hblt', hcl'⟩ := hc1; cases hpe'; obtain ⟨g0, g1, g2, g3, g4⟩ := hcl' k hlt; have HG := Hid.mk' (hcl' k hlt); clear hb1 hr1 hcl')
            | (go_at_call 42; refine (monDegS _ _ _ _ _).mono ?_; rw [hdg]; rintro r w2 ⟨rfl, hb2⟩; have hB2 := bel_next HB1w.out hb2; have hO2 := owns_below (owns_below HOWN.out HB1.out) hb2; obtain ⟨x0, x1, x2, x3, x4⟩ := HG.out.below hb2 hblt'; clear hb2 g0 g1 g2 g3 g4)
            | (at_builtin; refine wpList_append_lies _ rfl (.tmp 26) (.tmp 31) 24 rfl w.heap.size 40 i0 _ 5 40 Try.underlying24 hi0 hz0 hz1 hz2 rfl (by omega) _ L.length (cellsL L) rfl (hO2.alloc _) ⟨w2.heap.size, 0, none⟩ 1 1 (cellsL [f k]) rfl (by rw [cellsL_length]; rfl) (by rw [cellsL_one]; exact World.news_of_block (heap_alloc_new w2 _)) (one_cells _) (by omega) (by unfold maxLen; omega) (by omega) (by have := hB2.size; simp; omega) _ rfl ?_; intro g0 cap0 w3 hown1 hgrow hat hlt1; have HB := Hid.mk' ((hB2.alloc hB2.size _).grown hgrow (Nat.le_trans hB2.size (by simp)) (fun k hk => (hO2.lt k hk).1)); have HO1 := Hid.mk' hown1; clear hown1 hgrow hat hlt1 hO2))
          go_roundw
          case rel => exact ⟨k + 1, by omega, by go_num, by rw [HE.out, cellsL_append, List.length_append]; exact HO1.out, HB.out⟩
          case measure => simp [intOf]; omega
        · have hvb : (dgr (f k).m == v) = false := by simp [hv]
          have e2 : wantL (fun t => dgr t.m == v) f (k + 1) = wantL (fun t => dgr t.m == v) f k := by simp [wantL, hv]
          have HE := Hid.mk' e2
          clear e2 hv
          generalize hWL : wantL (fun t => dgr t.m == v) f k = L at *
          go_wp2_with (first
            | (go_at_call 26; refine (polOkS _ _ _ _ f (HA.out.below HBL.out)).mono ?_; rw [hpa]; rintro r w1 ⟨rfl, hb1⟩; have HB1 := Hid.mk' hb1; have HB1w := Hid.mk' (bel_next HBL.out hb1); have hr1 := HA.out.below HB1w.out; have hc1 := (hr1.2.2.resolve_left (by omega)); obtain ⟨pb', off', hpe', hblt', hcl'⟩ := hc1; cases hpe'; obtain ⟨g0, g1, g2, g3, g4⟩ := hcl' k hlt; clear hb1 hr1 hcl')
            | (go_at_call 42; refine (monDegS _ _ _ _ _).mono ?_; rw [hdg]; rintro r w2 ⟨rfl, hb2⟩; have HB2 := Hid.mk' (bel_next HB1w.out hb2); have HO2 := Hid.mk' (owns_below (owns_below HOWN.out HB1.out) hb2); clear hb2 g0 g1 g2 g3 g4))
          go_roundw
          case rel => exact ⟨k + 1, by omega, by go_num, by rw [HE.out]; exact HO2.out, HB2.out⟩
          case measure => simp [intOf]; omega
      · obtain rfl : k = n := by omega
        have HOWN := Hid.mk' hown
        have HBL := Hid.mk' hbl
        clear hown hbl
        go_wp2
        go_ret
        exact ⟨_, rfl, HBL.out, HOWN.out⟩
set_option maxRecDepth 100000 in
set_option maxHeartbeats 4000000 in
theorem filSymbolS (w : World) (a : Option Addr) (n cap : Nat) (f : Nat → T) (h : Rd w a n cap f) :
    Calls Try.prog 20 #[.slice a n cap] w fun r w' => ∃ v', r = .returned v' ∧ Below w.heap.size w w' ∧ w'.ownsRow w.heap.size 40 5 v' (filSymbol f n).length (cellsL (filSymbol f n)) := by
  obtain ⟨i0, hi0, hz0, hz1, hz2⟩ := info_parts infoT
  have HA := Hid.mk' h
  have hn : (n : Int) ≤ 140737488351232 := by have := h.2.1; omega
  have hO0 := owns_none w w.heap.size (Nat.le_refl _)
  have hB0 := bel_one w (.cells #[] 40)
  clear h
  cases hpa : polOk n f
  · have e1 : filSymbol f n = [] := by simp [filSymbol, filWith, hpa]
    rw [e1]
    go_enter Try.func20, Try.ntmps20
    go_wp2_with (go_at_call 16; refine (filOrderS _ _ _ _ f (HA.out.below hB0)).mono ?_; rintro r w9 ⟨rfl, hb9⟩; have HB9 := Hid.mk' (bel_next hB0 hb9); have HO9 := Hid.mk' (owns_below hO0 hb9); clear hb9 hB0 hO0)
    go_loopw [3, 5] (fun v ii wr => ii = .int .i64 0 ∧ wr.ownsRow w.heap.size 40 5 v 0 (cellsL []) ∧ Below w.heap.size w wr) (fun _ _ _ => 0)
    case atStart => exact ⟨rfl, HO9.out, HB9.out⟩
    case round =>
      obtain ⟨rfl, hown, hbl⟩ := hrel
      by_cases h0 : n = 0
      · subst h0
        go_wp2
        go_ret
        exact ⟨_, rfl, hbl, hown⟩
      · have hpos : (0 : Int) < (n : Int) := by omega
        have HOWN := Hid.mk' hown
        have HBL := Hid.mk' hbl
        clear hown hbl
        go_wp2_with (go_at_call 26; refine (polOkS _ _ _ _ f (HA.out.below HBL.out)).mono ?_; rw [hpa]; rintro r w1 ⟨rfl, hb1⟩; have HB1 := Hid.mk' hb1; clear hb1)
        go_ret
        exact ⟨_, rfl, bel_next HBL.out HB1.out, owns_below HOWN.out HB1.out⟩
  · have e1 : filSymbol f n = wantL (fun t => slp t.m == filOrder n f) f n := by simp [filSymbol, filWith, hpa, filOrder]
    rw [e1]
    have l1 := polOk_n hpa
    have HM := Hid.mk' (polOk_m hpa)
    generalize hvo : filOrder n f = v at *
    go_enter Try.func20, Try.ntmps20
    go_wp2_with (go_at_call 16; refine (filOrderS _ _ _ _ f (HA.out.below hB0)).mono ?_; rw [hvo]; rintro r w9 ⟨rfl, hb9⟩; have HB9 := Hid.mk' (bel_next hB0 hb9); have HO9 := Hid.mk' (owns_below hO0 hb9); clear hb9 hB0 hO0)
    clear hvo e1
    go_loopw [3, 5] (fun v' ii wr => ∃ i : Nat, i ≤ n ∧ ii = .int .i64 (i : Int) ∧ wr.ownsRow w.heap.size 40 5 v' (wantL (fun t => slp t.m == v) f i).length (cellsL (wantL (fun t => slp t.m == v) f i)) ∧ Below w.heap.size w wr) (fun _ ii _ => n - (intOf ii).toNat)
    case atStart => exact ⟨0, Nat.zero_le _, rfl, HO9.out, HB9.out⟩
    case round =>
      obtain ⟨k, hi, rfl, hown, hbl⟩ := hrel
      by_cases hlt : k < n
      · have hil : (k : Int) < (n : Int) := by omega
        have hwl := wantL_len (fun t => slp t.m == v) f k
        obtain ⟨_, _, _, _, d1, d2, e1, e2⟩ := M.ok_iff.1 (HM.out k hlt)
        have HOWN := Hid.mk' hown
        have HBL := Hid.mk' hbl
        clear hown hbl
        have hri := HA.out.below HBL.out
        rcases hri.2.2 with h0 | ⟨pb, off, hpe, hblt, hcl⟩
        · omega
        subst hpe
        clear hcl hri
        go_wp2_with (go_at_call 26; refine (polOkS _ _ _ _ f (HA.out.below HBL.out)).mono ?_; rw [hpa]; rintro r w1 ⟨rfl, hb1⟩; have HB1 := Hid.mk' hb1; have HB1w := Hid.mk' (bel_next HBL.out hb1); have hr1 := HA.out.below HB1w.out; have hc1 := (hr1.2.2.resolve_left (by omega)); obtain ⟨pb', off', hpe', hblt', hcl'⟩ := hc1; cases hpe'; have HG := Hid.mk' (hcl' k hlt); clear hb1 hr1 hcl')
        have ne := Ext.there w1
        have s3 : ∀ u : Ext w1, u.1.cell? ⟨pb, off + k * 5 + 3, none⟩ = some (.int .i64 (f k).m.d) := fun u => (u.cell hblt').trans HG.out.2.2.2.1
        have s4 : ∀ u : Ext w1, u.1.cell? ⟨pb, off + k * 5 + 4, none⟩ = some (.int .i64 (f k).m.e) := fun u => (u.cell hblt').trans HG.out.2.2.2.2
        by_cases hv : slp (f k).m = v
        · have hvb : ((f k).m.d + (f k).m.e == v) = true := by have : (f k).m.d + (f k).m.e = v := hv; simp [this]
          have e2 : wantL (fun t => slp t.m == v) f (k + 1) = wantL (fun t => slp t.m == v) f k ++ [f k] := by simp [wantL, hv]
          have HE := Hid.mk' e2
          clear e2 hv
          generalize hWL : wantL (fun t => slp t.m == v) f k = L at *
          refine wp_region_ext (by kernel_rfl) (by kernel_rfl) ?_
          repeat (go_big_quiet_step (fail))
          refine wpQuiet_nil ?_
          rintro w2 ⟨u, hu⟩
          have hb2 : Below w1.heap.size w1 w2 := by rw [hu]; exact u.2
          clear hu u s3 s4
          have hB2 := bel_next HB1w.out hb2
          have hO2 := owns_below (owns_below HOWN.out HB1.out) hb2
          obtain ⟨x0, x1, x2, x3, x4⟩ := HG.out.below hb2 hblt'
          clear hb2
          go_wp2_with (at_builtin; refine wpList_append_lies _ rfl (.tmp 34) (.tmp 39) 24 rfl w.heap.size 40 i0 _ 5 40 Try.underlying24 hi0 hz0 hz1 hz2 rfl (by omega) _ L.length (cellsL L) rfl (hO2.alloc _) ⟨w2.heap.size, 0, none⟩ 1 1 (cellsL [f k]) rfl (by rw [cellsL_length]; rfl) (by rw [cellsL_one]; exact World.news_of_block (heap_alloc_new w2 _)) (one_cells _) (by omega) (by unfold maxLen; omega) (by omega) (by have := hB2.size; simp; omega) _ rfl ?_; intro g0 cap0 w3 hown1 hgrow hat hlt1; have HB := Hid.mk' ((hB2.alloc hB2.size _).grown hgrow (Nat.le_trans hB2.size (by simp)) (fun k hk => (hO2.lt k hk).1)); have HO1 := Hid.mk' hown1; clear hown1 hgrow hat hlt1 hO2)
          go_roundw
          case rel => exact ⟨k + 1, by omega, by go_num, by rw [HE.out, cellsL_append, List.length_append]; exact HO1.out, HB.out⟩
          case measure => simp [intOf]; omega
        · have hvb : ((f k).m.d + (f k).m.e == v) = false := by have : ¬ (f k).m.d + (f k).m.e = v := hv; simp [this]
          have e2 : wantL (fun t => slp t.m == v) f (k + 1) = wantL (fun t => slp t.m == v) f k := by simp [wantL, hv]
          have HE := Hid.mk' e2
          clear e2 hv
          generalize hWL : wantL (fun t => slp t.m == v) f k = L at *
          refine wp_region_ext (by kernel_rfl) (by kernel_rfl) ?_
          repeat (go_big_quiet_step (fail))
          refine wpQuiet_nil ?_
          rintro w2 ⟨u, hu⟩
          have hb2 : Below w1.heap.size w1 w2 := by rw [hu]; exact u.2
          clear hu u s3 s4
          have HB2 := Hid.mk' (bel_next HB1w.out hb2)
          have HO2 := Hid.mk' (owns_below (owns_below HOWN.out HB1.out) hb2)
          clear hb2
          go_wp2
          go_roundw
          case rel => exact ⟨k + 1, by omega, by go_num, by rw [HE.out]; exact HO2.out, HB2.out⟩
          case measure => simp [intOf]; omega
      · obtain rfl : k = n := by omega
        have HOWN := Hid.mk' hown
        have HBL := Hid.mk' hbl
        clear hown hbl
        go_wp2
        go_ret
        exact ⟨_, rfl, HBL.out, HOWN.out⟩
end Go.Proofs.Ytioecpiogpjlaaa
