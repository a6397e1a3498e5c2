/-
  The walk of FnPolLead: whatever the code, it comes out true, and nothing that was there is turned.
-/
import Derived.Test.YtfnlogmfkpaaiadDrawPA
import Derived.Test.YtfnlogmfkpaaiadLeadI
import Derived.Test.YtfnlogmfkpaaiadLawM
namespace Go.Proofs.Ytfnlogmfkpaaiad
open Go.RowKit
set_option linter.unusedVariables false

theorem lst11 (u : Int) (u0 : 0 ≤ u) (u1 : u < 11) : ∃ x, #[Value.int .i64 1, .int .i64 2, .int .i64 3, .int .i64 1, .int .i64 2, .int .i64 3, .int .i64 1, .int .i64 2, .int .i64 3, .int .i64 0, .int .i64 4][u.toNat]? = some (.int .i64 x) := by
  have hu : u = 0 ∨ u = 1 ∨ u = 2 ∨ u = 3 ∨ u = 4 ∨ u = 5 ∨ u = 6 ∨ u = 7 ∨ u = 8 ∨ u = 9 ∨ u = 10 := by omega
  rcases hu with rfl | rfl | rfl | rfl | rfl | rfl | rfl | rfl | rfl | rfl | rfl <;> exact ⟨_, rfl⟩
theorem order_any (w : World) (B p : Nat) (h : Rdr w B p) (hp : p ≤ 90000) :
    Calls Try.prog 41 #[.pointer (some ⟨B, 0, none⟩)] w fun e w' => ∃ x, e = .returned (.int .i64 x) ∧ Rdr w' B (p + 1) ∧ Beside B w w' := by
  have hB := h.lt
  go_enter Try.func41, Try.ntmps41
  go_wp2_with fail
  refine (pick_any _ B p 11 (h.alloc _) (by omega) (by omega) (by omega)).mono ?_
  rintro e w1 ⟨j, rfl, j0, j1, hk⟩
  obtain ⟨x, hx⟩ := lst11 j j0 j1
  have hc : w1.cell? ⟨w.heap.size, j.toNat, none⟩ = some (.int .i64 x) := by
    rw [hk.beside.cell (by simp) (by omega), World.cell?_alloc_at _ _ _ _ rfl]; exact hx
  have hr := hk.rdr (h.alloc _)
  have hb := (bes_alloc B w _).trans hk.beside
  clear hk hx h
  go_wp2
  go_ret
  exact ⟨_, rfl, hr, hb⟩
theorem drawPolLead (w : World) (a : Option Addr) (len cap : Nat) (h : Src w a len cap) :
    Calls Try.prog 17 #[.slice a len cap] w fun e w' => ∃ (o : Int) (a : Option Addr) (m cap : Nat) (f : Nat → T), e = .returned (.tuple #[.int .i64 o, .slice a m cap]) ∧ Rd w' a m cap f ∧ m ≤ 5 ∧ Below w.heap.size w w' := by
  go_enter Try.func17, Try.ntmps17
  go_wp2_with fail
  refine (open_any _ _ _ _ h).mono ?_
  rintro e w1 ⟨rfl, hR1, b1⟩
  have hl1 := hR1.lt
  clear h
  go_wp2_with fail
  refine (order_any w1 _ _ hR1 (by omega)).mono ?_
  rintro e w2 ⟨o, rfl, hR2, s2⟩
  have b2 := s2.below b1 (Nat.le_refl _) (by omega)
  have hs2 := s2.size
  clear hR1 s2 b1
  go_wp2_with fail
  refine (any_any w2 _ _ 12 hR2 (by omega) (by omega) (by omega)).mono ?_
  rintro e w3 ⟨pa, m, pc, f, q, rfl, hrd, hm, hblk, hq, hR3, s3⟩
  have b3 := s3.below b2 (Nat.le_refl _) (by omega)
  clear hR2 hR3 s3 b2
  go_wp2
  go_ret2
  exact ⟨_, _, _, _, f, rfl, hrd, hm, b3⟩
def rkZ (o : Int) (m : M) : Int := if o = 1 then rkD m else if o = 3 then rkO m else rkL m
theorem ord_rk {o : Int} {a b : M} (ho : 1 ≤ o ∧ o ≤ 3) (ha : a.ok = true) (hb : b.ok = true) : M.ord o a b = c3 (rkZ o a) (rkZ o b) := by
  obtain ⟨h1, h2⟩ := ho
  have h : o = 1 ∨ o = 2 ∨ o = 3 := by omega
  rcases h with rfl | rfl | rfl
  · rw [← rk_deg ha hb]; simp [rkZ]
  · rw [← rk_two ha hb]; simp [rkZ]
  · rw [← rk_out ha hb]; simp [rkZ]
theorem c3_gt {a b : Int} : 0 < c3 a b ↔ b < a := by unfold c3; split <;> (try split) <;> omega
theorem lead_top {o : Int} {f : Nat → T} {n : Nat} (ho : 1 ≤ o ∧ o ≤ 3) (hm : ∀ i, i < n → (f i).m.ok = true) : ∀ (u i k : Nat), i + u ≤ n → k < n → leadFrom o f u i k < n ∧ rkZ o (f k).m ≤ rkZ o (f (leadFrom o f u i k)).m ∧ ∀ j, i ≤ j → j < i + u → rkZ o (f j).m ≤ rkZ o (f (leadFrom o f u i k)).m
  | 0, i, k, _, hk => ⟨hk, Int.le_refl _, fun j h1 h2 => by omega⟩
  | u + 1, i, k, hi, hk => by
    have hc := c3_gt (a := rkZ o (f i).m) (b := rkZ o (f k).m)
    rw [← ord_rk ho (hm i (by omega)) (hm k hk)] at hc
    simp only [leadFrom]
    split
    · rename_i h
      obtain ⟨h1, h2, h3⟩ := lead_top ho hm u (i + 1) i (by omega) (by omega)
      have h4 := hc.1 h
      refine ⟨h1, by omega, fun j hj1 hj2 => ?_⟩
      by_cases hji : j = i
      · rw [hji]; exact h2
      · exact h3 j (by omega) (by omega)
    · rename_i h
      obtain ⟨h1, h2, h3⟩ := lead_top ho hm u (i + 1) k (by omega) hk
      have h4 : ¬ rkZ o (f k).m < rkZ o (f i).m := fun hh => h (hc.2 hh)
      refine ⟨h1, h2, fun j hj1 hj2 => ?_⟩
      by_cases hji : j = i
      · rw [hji]; omega
      · exact h3 j (by omega) (by omega)
theorem lead_all {o : Int} {f : Nat → T} {n : Nat} (ho : 1 ≤ o ∧ o ≤ 3) (hm : ∀ i, i < n → (f i).m.ok = true) (hn : 0 < n) : leadAt o f n < n ∧ ∀ j, j < n → rkZ o (f j).m ≤ rkZ o (f (leadAt o f n)).m := by
  obtain ⟨h1, h2, h3⟩ := lead_top (o := o) (f := f) (n := n) ho hm (n - 1) 1 0 (by omega) hn
  refine ⟨h1, fun j hj => ?_⟩
  by_cases h : j = 0
  · rw [h]; exact h2
  · exact h3 j (by omega) (by omega)
theorem desc {n : Nat} {f : Nat → T} (h : polOk n f = true) {j : Nat} : ∀ {i : Nat}, j < i → i < n → rkD (f i).m < rkD (f j).m
  | 0, hj, _ => absurd hj (Nat.not_lt_zero _)
  | i + 1, hj, hi => by
    have hm := polOk_m h
    have h' := h
    simp only [polOk, decide_eq_true_eq] at h'
    have h1 := h'.2 (i + 1) hi
    simp only [okAt, Bool.and_eq_true, Bool.or_eq_true, decide_eq_true_eq] at h1
    have h2 := h1.2.resolve_left (by omega)
    rw [show i + 1 - 1 = i by omega] at h2
    have h3 := (ord_pos (hm i (by omega)) (hm (i + 1) hi)).1 h2
    by_cases hji : j = i
    · rw [hji]; exact h3
    · have := desc h (j := j) (i := i) (by omega) (by omega)
      omega
theorem at_hit {f : Nat → T} {m : M} : ∀ (u k : Nat), (∃ j, k ≤ j ∧ j < k + u ∧ (f j).m.eqB m = true) → ∃ j, j < k + u ∧ (f j).m.eqB m = true ∧ atFrom f m u k = (f j).c
  | 0, k, ⟨j, h1, h2, _⟩ => by omega
  | u + 1, k, ⟨j, h1, h2, h3⟩ => by
    rw [atFrom]
    split
    · rename_i hh; exact ⟨k, by omega, hh, rfl⟩
    · rename_i hne
      have : j ≠ k := fun e => by rw [e] at h3; exact hne h3
      obtain ⟨i, hi, he⟩ := at_hit u (k + 1) ⟨j, by omega, by omega, h3⟩
      exact ⟨i, by omega, he⟩
theorem polAt_own {f : Nat → T} {n q : Nat} (h : polOk n f = true) (hq : q < n) : polAt f n (f q).m = (f q).c := by
  obtain ⟨j, hj, he, hc⟩ := at_hit (f := f) (m := (f q).m) n 0 ⟨q, by omega, by omega, M.eqB_iff.2 rfl⟩
  rw [polAt, hc]
  have hjn : j < n := by omega
  have hm := M.eqB_iff.1 he
  rcases Nat.lt_trichotomy j q with h1 | h1 | h1
  · have := desc h h1 hq; rw [hm] at this; omega
  · rw [h1]
  · have := desc h h1 hjn; rw [hm] at this; omega
/-- what is known of the greatest term. -/
theorem lead_facts {o : Int} {f : Nat → T} {n : Nat} (h : leadOk o n f = true) : ∃ t : T, leadT o n f = t ∧ (∀ j, j < n → M.cmp o (f j).m t.m ≤ 0) ∧ polAt f n t.m = t.c ∧ (o = 1 → t = f 0) ∧ 0 < n := by
  have hl := leadT_yes h
  simp only [leadOk, Bool.and_eq_true, decide_eq_true_eq] at h
  obtain ⟨⟨ho, hp⟩, hn⟩ := h
  have hm := polOk_m hp
  obtain ⟨hq, hall⟩ := lead_all ho hm hn
  refine ⟨f (leadAt o f n), hl, fun j hj => ?_, polAt_own hp hq, fun h1 => ?_, hn⟩
  · rw [M.cmp, if_pos ⟨ho, hm j hj, hm _ hq⟩, ord_rk ho (hm j hj) (hm _ hq)]
    have h1 := hall j hj
    have h2 := c3_gt (a := rkZ o (f j).m) (b := rkZ o (f (leadAt o f n)).m)
    omega
  · subst h1
    by_cases h0 : leadAt 1 f n = 0
    · rw [h0]
    · have h1 := hall 0 hn
      have h2 := desc hp (j := 0) (i := leadAt 1 f n) (by omega) hq
      simp only [rkZ, if_pos] at h1
      omega
set_option maxRecDepth 100000 in
set_option maxHeartbeats 8000000 in
theorem walk_FnPolLead (w : World) (a0 : Option Addr) (len0 cap0 : Nat) (s0 : Src w a0 len0 cap0) :
    Calls Try.prog 4 #[.slice a0 len0 cap0] w fun e w' => e = .returned (.bool true) ∧ Below w.heap.size w w' := by
  by_cases c0 : (1048576 : Int) < (len0 : Int)
  · go_enter Try.func4, Try.ntmps4
    go_wp2
    go_ret
    exact ⟨rfl, Below.refl _ _⟩
  go_enter Try.func4, Try.ntmps4
  go_wp2_with fail
  refine (drawPolLead _ _ _ _ s0).mono ?_
  rintro e w1 ⟨o, pa, n, pc, f, rfl, hrd, hn, b1⟩
  have HR1 := Hid.mk' hrd
  have HB1 := Hid.mk' b1
  have hn5 : (n : Int) ≤ 5 := by omega
  clear s0 hrd b1
  obtain ⟨t, ht⟩ : ∃ t, leadT o n f = t := ⟨_, rfl⟩
  obtain ⟨ok, hok⟩ : ∃ ok, leadOk o n f = ok := ⟨_, rfl⟩
  go_wp2_with fail
  have HI := polLeadI w1 o pa n pc f HR1.out
  rw [ht, hok] at HI
  refine HI.mono ?_
  clear HI
  rintro e w2 ⟨rfl, b2⟩
  have HR2 := Hid.mk' (HR1.out.below b2)
  have HB2 := Hid.mk' (bel_next HB1.out b2)
  clear b2 HR1 HB1
  go_wp2_with fail
  have HR3 := Hid.mk' (HR2.out.below (bel_one w2 (.cells #[.int .i64 t.c, .int .i64 t.m.x, .int .i64 t.m.y, .int .i64 t.m.d, .int .i64 t.m.e] 38)))
  have HB3 := Hid.mk' (bel_next HB2.out (bel_one w2 (.cells #[.int .i64 t.c, .int .i64 t.m.x, .int .i64 t.m.y, .int .i64 t.m.d, .int .i64 t.m.e] 38)))
  have HT3 := Hid.mk' (C5.box w2 38 t)
  clear HR2 HB2
  generalize (w2.alloc (.cells #[.int .i64 t.c, .int .i64 t.m.x, .int .i64 t.m.y, .int .i64 t.m.d, .int .i64 t.m.e] 38)) = w3 at HR3 HB3 HT3 ⊢
  have HI := polLeadS w3 o pa n pc f HR3.out
  rw [ht, hok] at HI
  refine HI.mono ?_
  clear HI
  rintro e w4 ⟨rfl, b4⟩
  have HR4 := Hid.mk' (HR3.out.below b4)
  have HB4 := Hid.mk' (bel_next HB3.out b4)
  have HT4 := Hid.mk' (HT3.out.below b4)
  clear b4 HR3 HB3 HT3
  have HR5 := Hid.mk' (HR4.out.below (bel_one w4 (.cells #[.int .i64 t.c, .int .i64 t.m.x, .int .i64 t.m.y, .int .i64 t.m.d, .int .i64 t.m.e] 38)))
  have HB5 := Hid.mk' (bel_next HB4.out (bel_one w4 (.cells #[.int .i64 t.c, .int .i64 t.m.x, .int .i64 t.m.y, .int .i64 t.m.d, .int .i64 t.m.e] 38)))
  have HT5 := Hid.mk' (HT4.out.below (bel_one w4 (.cells #[.int .i64 t.c, .int .i64 t.m.x, .int .i64 t.m.y, .int .i64 t.m.d, .int .i64 t.m.e] 38)))
  have hokk : (ok != ok) = false := by simp
  have HTT := Hid.mk' ht
  have HOK := Hid.mk' hok
  obtain ⟨p0, p1, p2, p3, p4⟩ := HT4.out
  have hlt4 : w2.heap.size < w4.heap.size := World.block_lt_of_cell? w4 _ p0
  clear ht hok HR4 HB4 HT4
  cases ok
  · have hz := leadT_no HOK.out
    rw [HTT.out] at hz
    subst hz
    by_cases hn0 : n = 0
    · have hnb : ((n : Int) == 0) = true := by simp [hn0]
      clear hn0
      go_wp2_with fail
      refine (heOkT _).mono ?_
      rintro e wz ⟨rfl, bzz⟩
      have HBZ := Hid.mk' (bel_next HB5.out bzz)
      clear bzz
      go_wp2
      go_ret
      exact ⟨rfl, HBZ.out⟩
    · have hnb : ((n : Int) == 0) = false := by simpa using hn0
      have HN := Hid.mk' hn0
      clear hn0
      go_wp2_with fail
      refine (polOkS _ _ _ _ f HR5.out).mono ?_
      cases hp : polOk n f
      · rintro e w6 ⟨rfl, b6⟩
        have HB6 := Hid.mk' (bel_next HB5.out b6)
        clear b6
        go_wp2_with fail
        refine (heOkT _).mono ?_
        rintro e wz ⟨rfl, bzz⟩
        have HBZ := Hid.mk' (bel_next HB6.out bzz)
        clear bzz
        go_wp2
        go_ret
        exact ⟨rfl, HBZ.out⟩
      · rintro e w6 ⟨rfl, b6⟩
        have HB6 := Hid.mk' (bel_next HB5.out b6)
        clear b6
        have ho : ¬ (1 ≤ o ∧ o ≤ 3) := fun ho => by
          have h1 := HOK.out
          have h2 := HN.out
          have h3 : 0 < n := by omega
          simp [leadOk, hp, ho, h3] at h1
        by_cases ho1 : o < 1
        · go_wp2_with fail
          refine (heOkT _).mono ?_
          rintro e wz ⟨rfl, bzz⟩
          have HBZ := Hid.mk' (bel_next HB6.out bzz)
          clear bzz
          go_wp2
          go_ret
          exact ⟨rfl, HBZ.out⟩
        · have ho3 : 3 < o := by omega
          go_wp2_with fail
          refine (heOkT _).mono ?_
          rintro e wz ⟨rfl, bzz⟩
          have HBZ := Hid.mk' (bel_next HB6.out bzz)
          clear bzz
          go_wp2
          go_ret
          exact ⟨rfl, HBZ.out⟩
  · obtain ⟨t', e', hcmp, hat, h1st, hn0⟩ := lead_facts HOK.out
    rw [HTT.out] at e'
    subst e'
    have HCMP := Hid.mk' hcmp
    have HAT := Hid.mk' hat
    have H1 := Hid.mk' h1st
    clear hcmp hat h1st
    go_wp2
    go_loopw [9] (fun i wr => ∃ k : Nat, k ≤ n ∧ i = .int .i64 k ∧ Below w.heap.size w wr ∧ C5 wr w2.heap.size t ∧ Rd wr pa n pc f) (fun i _ => n - (intOf i).toNat)
    case atStart => exact ⟨0, Nat.zero_le _, rfl, HB5.out, HT5.out, HR5.out⟩
    case round =>
      obtain ⟨k, hk, rfl, hB, hT, hR⟩ := hrel
      have HR := Hid.mk' hR
      have HT := Hid.mk' hT
      have HB := Hid.mk' hB
      by_cases hlt : k < n
      · have hkn : (k : Int) < (n : Int) := by omega
        rcases hR.2.2 with h0 | ⟨b, off, rfl, hblt, hcl⟩
        · omega
        obtain ⟨g0, g1, g2, g3, g4⟩ := hcl k hlt
        have hsl : w2.heap.size < wr.heap.size := World.block_lt_of_cell? wr _ hT.1
        obtain ⟨r0, r1, r2, r3, r4⟩ := hT
        have ne := Ext.there wr
        have s1 : ∀ u : Ext wr, u.1.cell? ⟨b, off + k * 5 + 1, none⟩ = some (.int .i64 (f k).m.x) := fun u => (u.cell hblt).trans g1
        have s2 : ∀ u : Ext wr, u.1.cell? ⟨b, off + k * 5 + 2, none⟩ = some (.int .i64 (f k).m.y) := fun u => (u.cell hblt).trans g2
        have s3 : ∀ u : Ext wr, u.1.cell? ⟨b, off + k * 5 + 3, none⟩ = some (.int .i64 (f k).m.d) := fun u => (u.cell hblt).trans g3
        have s4 : ∀ u : Ext wr, u.1.cell? ⟨b, off + k * 5 + 4, none⟩ = some (.int .i64 (f k).m.e) := fun u => (u.cell hblt).trans g4
        have v1 : ∀ u : Ext wr, u.1.cell? ⟨w2.heap.size, 1, none⟩ = some (.int .i64 t.m.x) := fun u => (u.cell hsl).trans r1
        have v2 : ∀ u : Ext wr, u.1.cell? ⟨w2.heap.size, 2, none⟩ = some (.int .i64 t.m.y) := fun u => (u.cell hsl).trans r2
        have v3 : ∀ u : Ext wr, u.1.cell? ⟨w2.heap.size, 3, none⟩ = some (.int .i64 t.m.d) := fun u => (u.cell hsl).trans r3
        have v4 : ∀ u : Ext wr, u.1.cell? ⟨w2.heap.size, 4, none⟩ = some (.int .i64 t.m.e) := fun u => (u.cell hsl).trans r4
        obtain ⟨cc, hcc⟩ : ∃ cc, M.cmp o ⟨(f k).m.x, (f k).m.y, (f k).m.d, (f k).m.e⟩ ⟨t.m.x, t.m.y, t.m.d, t.m.e⟩ = cc := ⟨_, rfl⟩
        have hcl0 : ¬ 0 < cc := by have := HCMP.out k hlt; rw [← hcc]; exact Int.not_lt.2 this
        clear hcl hR g0 g1 g2 g3 g4 r0 r1 r2 r3 r4 hB
        go_wp2_with fail
        refine wp_region_ext (by kernel_rfl) (by kernel_rfl) ?_
        repeat (go_big_quiet_step (first | (go_at_call 20; refine ext_grows (monCmpI_of (by with_reducible assumption) _)) | fail))
        refine wpQuiet_nil ?_
        rintro _ ⟨u, rfl⟩
        have HU := Hid.mk' u.2
        clear s1 s2 s3 s4 v1 v2 v3 v4 ne
        go_wp2
        go_roundw
        case rel => exact ⟨k + 1, by omega, by go_num, bel_next HB.out HU.out, HT.out.below HU.out, HR.out.below HU.out⟩
        case measure => simp [intOf]; omega
      · obtain rfl : k = n := by omega
        rcases hR.2.2 with h0 | ⟨b, off, rfl, hblt, hcl⟩
        · omega
        obtain ⟨g0, g1, g2, g3, g4⟩ := hcl 0 hn0
        simp only [Nat.zero_mul, Nat.add_zero] at g0 g1 g2 g3 g4
        have hsl : w2.heap.size < wr.heap.size := World.block_lt_of_cell? wr _ hT.1
        obtain ⟨r0, r1, r2, r3, r4⟩ := hT
        have ne := Ext.there wr
        have s0 : ∀ u : Ext wr, u.1.cell? ⟨b, off, none⟩ = some (.int .i64 (f 0).c) := fun u => (u.cell hblt).trans g0
        have s1 : ∀ u : Ext wr, u.1.cell? ⟨b, off + 1, none⟩ = some (.int .i64 (f 0).m.x) := fun u => (u.cell hblt).trans g1
        have s2 : ∀ u : Ext wr, u.1.cell? ⟨b, off + 2, none⟩ = some (.int .i64 (f 0).m.y) := fun u => (u.cell hblt).trans g2
        have s3 : ∀ u : Ext wr, u.1.cell? ⟨b, off + 3, none⟩ = some (.int .i64 (f 0).m.d) := fun u => (u.cell hblt).trans g3
        have s4 : ∀ u : Ext wr, u.1.cell? ⟨b, off + 4, none⟩ = some (.int .i64 (f 0).m.e) := fun u => (u.cell hblt).trans g4
        have v0 : ∀ u : Ext wr, u.1.cell? ⟨w2.heap.size, 0, none⟩ = some (.int .i64 t.c) := fun u => (u.cell hsl).trans r0
        have v1 : ∀ u : Ext wr, u.1.cell? ⟨w2.heap.size, 1, none⟩ = some (.int .i64 t.m.x) := fun u => (u.cell hsl).trans r1
        have v2 : ∀ u : Ext wr, u.1.cell? ⟨w2.heap.size, 2, none⟩ = some (.int .i64 t.m.y) := fun u => (u.cell hsl).trans r2
        have v3 : ∀ u : Ext wr, u.1.cell? ⟨w2.heap.size, 3, none⟩ = some (.int .i64 t.m.d) := fun u => (u.cell hsl).trans r3
        have v4 : ∀ u : Ext wr, u.1.cell? ⟨w2.heap.size, 4, none⟩ = some (.int .i64 t.m.e) := fun u => (u.cell hsl).trans r4
        have hPA : ∀ u : Ext wr, Calls Try.prog 21 #[.slice (some ⟨b, off, none⟩) k pc, .agg #[.int .i64 t.m.x, .int .i64 t.m.y, .int .i64 t.m.d, .int .i64 t.m.e]] u.1 fun r w' => r = .returned (.int .i64 t.c) ∧ Below u.1.heap.size u.1 w' := fun u => by
          have := polAtI u.1 (some ⟨b, off, none⟩) k pc f t.m.x t.m.y t.m.d t.m.e (HR.out.below u.2)
          rw [show polAt f k ⟨t.m.x, t.m.y, t.m.d, t.m.e⟩ = t.c from HAT.out] at this
          exact this
        have HPA := Hid.mk' hPA
        have hkp : (0 : Int) < (k : Int) := by omega
        clear hcl hR g0 g1 g2 g3 g4 r0 r1 r2 r3 r4 hB hPA
        by_cases ho : o = 1
        · have hob : (o != 1) = false := by simp [ho]
          have htf := H1.out ho
          subst htf
          clear ho
          go_wp2_with fail
          refine wp_region_ext (by kernel_rfl) (by kernel_rfl) ?_
          repeat (go_big_quiet_step (first | (go_at_call 21; refine ext_grows (HPA.out _)) | (go_at_call 13; refine ext_grows (heOkT _)) | fail))
          refine wpQuiet_nil ?_
          rintro _ ⟨u, rfl⟩
          have HU := Hid.mk' (bel_next HB.out u.2)
          go_wp2
          go_ret
          exact ⟨rfl, HU.out⟩
        · have hob : (o != 1) = true := by simp [ho]
          clear ho
          go_wp2_with fail
          refine wp_region_ext (by kernel_rfl) (by kernel_rfl) ?_
          repeat (go_big_quiet_step (first | (go_at_call 21; refine ext_grows (HPA.out _)) | (go_at_call 13; refine ext_grows (heOkT _)) | fail))
          refine wpQuiet_nil ?_
          rintro _ ⟨u, rfl⟩
          have HU := Hid.mk' (bel_next HB.out u.2)
          go_wp2
          go_ret
          exact ⟨rfl, HU.out⟩
end Go.Proofs.Ytfnlogmfkpaaiad
