/-
  More of chapter 3's model: an operator of one term, the number of a monomial, so many times an operator.
-/
import Derived.Test.YtahbekfhoidgjauExact
import Derived.Deep.RegionHeld3
namespace Go.Proofs.Ytahbekfhoidgjau
open Go.RowKit
set_option linter.unusedVariables false

/-- PolOf. -/
def polOf (c : Int) (m : M) : List T := if (1 ≤ c ∧ c ≤ 100) ∧ m.ok = true then [⟨c, m⟩] else []
/-- PolAt: the number of the first term with a monomial, from the k-th on. -/
def atFrom (f : Nat → T) (m : M) : Nat → Nat → Int
  | 0, _ => 0
  | u + 1, k => if (f k).m.eqB m = true then (f k).c else atFrom f m u (k + 1)
def polAt (f : Nat → T) (n : Nat) (m : M) : Int := atFrom f m n 0
set_option maxHeartbeats 4000000 in
theorem polAtS (w : World) (a : Option Addr) (n cap : Nat) (f : Nat → T) (x y d e : Int) (h : Rd w a n cap f) :
    Calls Try.prog 16 #[.slice a n cap, .agg #[.int .i64 x, .int .i64 y, .int .i64 d, .int .i64 e]] w fun r w' => r = .returned (.int .i64 (polAt f n ⟨x, y, d, e⟩)) ∧ Below w.heap.size w w' := by
  obtain ⟨h1, h2, h3⟩ := h
  have hn : (n : Int) ≤ 140737488351232 := by omega
  go_enter Try.func16, Try.ntmps16
  go_wp2
  go_loopw [5] (fun i wr => ∃ (k q : Nat), k ≤ n ∧ i = .int .i64 k ∧ wr = (w.alloc (.cells #[.int .i64 x, .int .i64 y, .int .i64 d, .int .i64 e] 34)).drewN q ∧ Hid (polAt f n ⟨x, y, d, e⟩ = atFrom f ⟨x, y, d, e⟩ (n - k) k)) (fun i _ => n - (intOf i).toNat)
  case atStart => exact ⟨0, 0, Nat.zero_le _, rfl, rfl, rfl⟩
  case round =>
    obtain ⟨k, q, hk, rfl, rfl, HL⟩ := hrel
    by_cases hlt : k < n
    · rcases h3 with h0 | ⟨b, off, rfl, hblt, hcl⟩
      · omega
      have hkn : (k : Int) < (n : Int) := by omega
      obtain ⟨g0, g1, g2, g3, g4⟩ := hcl k hlt
      clear hcl
      by_cases hx : (f k).m.x = x
      · by_cases hy : (f k).m.y = y
        · by_cases hd : (f k).m.d = d
          · by_cases he : (f k).m.e = e
            · have hq : (f k).m.eqB ⟨x, y, d, e⟩ = true := by simp [M.eqB, hx, hy, hd, he]
              have HN : Hid (polAt f n ⟨x, y, d, e⟩ = (f k).c) := by
                show _ = _
                rw [HL.out, show n - k = (n - (k + 1)) + 1 by omega, atFrom, hq]; rfl
              clear hq HL
              go_wp2_with fail
              go_quiet (fail)
              go_wp2
              go_ret
              exact ⟨ret_int HN.out.symm, below_drewN ((Below.refl _ _).alloc (Nat.le_refl _) _) _⟩
            · skip
              have hq : (f k).m.eqB ⟨x, y, d, e⟩ = false := by simp [M.eqB, he]
              have HN : Hid (polAt f n ⟨x, y, d, e⟩ = atFrom f ⟨x, y, d, e⟩ (n - (k + 1)) (k + 1)) := by
                show _ = _
                rw [HL.out, show n - k = (n - (k + 1)) + 1 by omega, atFrom, hq]; rfl
              clear hq HL
              go_wp2_with fail
              go_quiet (fail)
              go_wp2
              go_roundw
              case rel => exact ⟨k + 1, _, by omega, by go_num, rfl, HN⟩
              case measure => simp [intOf]; omega
          · skip
            have hq : (f k).m.eqB ⟨x, y, d, e⟩ = false := by simp [M.eqB, hd]
            have HN : Hid (polAt f n ⟨x, y, d, e⟩ = atFrom f ⟨x, y, d, e⟩ (n - (k + 1)) (k + 1)) := by
              show _ = _
              rw [HL.out, show n - k = (n - (k + 1)) + 1 by omega, atFrom, hq]; rfl
            clear hq HL
            go_wp2_with fail
            go_quiet (fail)
            go_wp2
            go_roundw
            case rel => exact ⟨k + 1, _, by omega, by go_num, rfl, HN⟩
            case measure => simp [intOf]; omega
        · skip
          have hq : (f k).m.eqB ⟨x, y, d, e⟩ = false := by simp [M.eqB, hy]
          have HN : Hid (polAt f n ⟨x, y, d, e⟩ = atFrom f ⟨x, y, d, e⟩ (n - (k + 1)) (k + 1)) := by
            show _ = _
            rw [HL.out, show n - k = (n - (k + 1)) + 1 by omega, atFrom, hq]; rfl
          clear hq HL
          go_wp2_with fail
          go_quiet (fail)
          go_wp2
          go_roundw
          case rel => exact ⟨k + 1, _, by omega, by go_num, rfl, HN⟩
          case measure => simp [intOf]; omega
      · skip
        have hq : (f k).m.eqB ⟨x, y, d, e⟩ = false := by simp [M.eqB, hx]
        have HN : Hid (polAt f n ⟨x, y, d, e⟩ = atFrom f ⟨x, y, d, e⟩ (n - (k + 1)) (k + 1)) := by
          show _ = _
          rw [HL.out, show n - k = (n - (k + 1)) + 1 by omega, atFrom, hq]; rfl
        clear hq HL
        go_wp2_with fail
        go_quiet (fail)
        go_wp2
        go_roundw
        case rel => exact ⟨k + 1, _, by omega, by go_num, rfl, HN⟩
        case measure => simp [intOf]; omega
    · go_wp2
      go_ret
      refine ⟨ret_int ?_, below_drewN ((Below.refl _ _).alloc (Nat.le_refl _) _) _⟩
      rw [HL.out, show n - k = 0 by omega]; rfl
/-- k terms, each c times. -/
def scT (c : Int) (f : Nat → T) (k : Nat) : List T := (List.range k).map fun i => ⟨c * (f i).c % 101, (f i).m⟩
theorem scT_len (c : Int) (f : Nat → T) (k : Nat) : (scT c f k).length = k := by simp [scT]
theorem scT_succ (c : Int) (f : Nat → T) (k : Nat) : scT c f (k + 1) = scT c f k ++ [⟨c * (f k).c % 101, (f k).m⟩] := by simp [scT, List.range_succ]
set_option maxRecDepth 100000 in
set_option maxHeartbeats 4000000 in
theorem l3ScaleS (w : World) (c : Int) (a : Option Addr) (n cap : Nat) (f : Nat → T) (h : Rd w a n cap f) (hc0 : 0 ≤ c) (hc1 : c ≤ 100) (hl : n ≤ 1000000) (hcf : ∀ i, i < n → 0 ≤ (f i).c ∧ (f i).c ≤ 100) :
    Calls Try.prog 29 #[.int .i64 c, .slice a n cap] w fun r w' => ∃ v, r = .returned v ∧ Below w.heap.size w w' ∧ w'.ownsRow w.heap.size 43 5 v (if c = 0 then 0 else n) (cellsL (scT c f (if c = 0 then 0 else n))) := by
  obtain ⟨i0, hi0, hz0, hz1, hz2⟩ := info_parts infoT
  obtain ⟨h1, h2, h3⟩ := h
  have hn : (n : Int) ≤ 1000000 := by omega
  by_cases hz : c = 0
  · rw [if_pos hz]
    subst hz
    go_enter Try.func29, Try.ntmps29
    go_wp2
    go_loopw [5, 6] (fun v i wr => v = .slice (some ⟨w.heap.size, 0, none⟩) 0 0 ∧ i = .int .i64 0 ∧ wr = w.alloc (.cells #[] 43)) (fun _ _ _ => 0)
    case atStart => exact ⟨rfl, rfl, rfl⟩
    case round =>
      obtain ⟨rfl, rfl, rfl⟩ := hrel
      by_cases hn0 : n = 0
      · subst hn0
        go_wp2
        go_ret
        exact ⟨_, rfl, (Below.refl _ _).alloc (Nat.le_refl _) _, owns_none w _ (Nat.le_refl _)⟩
      · have hnp : (0 : Int) < (n : Int) := by omega
        have dn : decide ((0 : Int) < (n : Int)) = true := decide_eq_true hnp
        go_wp2
        go_ret
        exact ⟨_, rfl, (Below.refl _ _).alloc (Nat.le_refl _) _, owns_none w _ (Nat.le_refl _)⟩
  · rw [if_neg hz]
    have hcb : (c != 0) = true := by simp [hz]
    clear hz
    go_enter Try.func29, Try.ntmps29
    go_wp2
    go_loopw [5, 6] (fun v i wr => ∃ k : Nat, k ≤ n ∧ i = .int .i64 k ∧ Below w.heap.size w wr ∧ wr.ownsRow w.heap.size 43 5 v k (cellsL (scT c f k))) (fun _ i _ => n - (intOf i).toNat)
    case atStart => exact ⟨0, Nat.zero_le _, rfl, (Below.refl _ _).alloc (Nat.le_refl _) _, owns_none w _ (Nat.le_refl _)⟩
    case round =>
      obtain ⟨k, hk, rfl, hB, hown⟩ := hrel
      by_cases hlt : k < n
      · rcases h3 with h0 | ⟨b, off, rfl, hblt, hcl⟩
        · omega
        have hkn : (k : Int) < (n : Int) := by omega
        have hbr : b < wr.heap.size := Nat.lt_of_lt_of_le hblt hB.size
        obtain ⟨g0, g1, g2, g3, g4⟩ := (hcl k hlt).below hB hblt
        obtain ⟨cf1, cf2⟩ := hcf k hlt
        obtain ⟨mb1, mb2⟩ := mul_bd hc0 hc1 cf1 cf2
        have HV : Hid ((IntKind.i64.wrap (c * (f k).c)).tmod 101 = c * (f k).c % 101) := by
          show _ = _
          rw [show IntKind.i64.wrap (c * (f k).c) = c * (f k).c by rw [IntKind.wrap_i64]; omega, Int.tmod_eq_emod_of_nonneg mb1]
        have HO := Hid.mk' hown
        clear hcl hcf hown
        go_wp2_with fail
        go_region_held3 (fun u => u.cell? ⟨b, off + k * 5, none⟩ = some (.int .i64 (f k).c) ∧ u.cell? ⟨b, off + k * 5 + 1, none⟩ = some (.int .i64 (f k).m.x) ∧ u.cell? ⟨b, off + k * 5 + 2, none⟩ = some (.int .i64 (f k).m.y) ∧ u.cell? ⟨b, off + k * 5 + 3, none⟩ = some (.int .i64 (f k).m.d) ∧ u.cell? ⟨b, off + k * 5 + 4, none⟩ = some (.int .i64 (f k).m.e)) (first | go_keep | (refine ⟨?_, ?_, ?_, ?_, ?_⟩ <;> (rw [hgrow.cell_far _ (by simp; omega) (by intro hh; exact absurd (HO.out.lt b hh.symm).1 (by omega))]; go_simp))) ((refine step_append_lies _ (by rfl) (.tmp 18) (.tmp 33) 24 (by rfl) w.heap.size 43 i0 _ 5 40 Try.underlying24 hi0 hz0 hz1 hz2 rfl (by omega) _ k (cellsL (scT c f k)) (by rfl) (by first | exact HO.out.alloc _ | exact (owns_below HO.out (Below.refl _ _).drew).alloc _) ⟨wr.heap.size, 0, none⟩ 1 1 (cellsL [⟨c * (f k).c % 101, (f k).m⟩]) (by rfl) (by rw [cellsL_length]; rfl) (by rw [cellsL_one]; simp only; rw [← HV.out]; exact World.news_of_block (heap_alloc_new wr _)) (one_cells _) (by omega) (by unfold maxLen; omega) (by omega) (by have := hB.size; simp; omega) _ (by rfl) ?_; intro g0 cap0 w1 hown1 hgrow hat hlt1))
        have HB := Hid.mk' (((hB.alloc hB.size _).drew).grown hgrow (Nat.le_trans hB.size (by simp)) (fun j hj => (HO.out.lt j hj).1))
        have HP := Hid.mk' hown1
        clear hown1 hgrow hat hlt1 HO
        go_wp2
        go_roundw
        case rel => exact ⟨k + 1, by omega, by go_num, HB.out, by rw [scT_succ, cellsL_append]; exact HP.out⟩
        case measure => simp [intOf]; omega
      · have hkn : k = n := by omega
        subst hkn
        have HO := Hid.mk' hown
        clear hown hcf
        go_wp2
        go_ret
        exact ⟨_, rfl, hB, HO.out⟩
/-- PolScale. -/
def polScale (c : Int) (f : Nat → T) (n : Nat) : List T := if (0 ≤ c ∧ c ≤ 100) ∧ polOk n f = true ∧ c ≠ 0 then scT c f n else []
theorem lf_scT (c : Int) (f : Nat → T) (n i : Nat) (h : i < n) : lf (scT c f n) i = ⟨c * (f i).c % 101, (f i).m⟩ := by
  simp [lf, scT, List.getD, List.getElem?_map, List.getElem?_range h]
/-- what is added for a difference. -/
def negT (g : Nat → T) (lb : Nat) : Nat → T := lf (scT 100 g lb)
/-- PolSub. -/
def polSub (f : Nat → T) (la : Nat) (g : Nat → T) (lb : Nat) : List T × Bool :=
  if polOk la f = true ∧ polOk lb g = true ∧ (addT f la (negT g lb) lb 0 0).length ≤ 400 then (addT f la (negT g lb) lb 0 0, true) else ([], false)
theorem polSub_len (f : Nat → T) (la : Nat) (g : Nat → T) (lb : Nat) : (polSub f la g lb).1.length ≤ 400 := by
  unfold polSub
  split
  · rename_i h; exact h.2.2
  · simp
set_option maxRecDepth 100000 in
set_option maxHeartbeats 4000000 in
theorem polSubS (w : World) (a b : Option Addr) (la ca lb cb : Nat) (f g : Nat → T) (ha : Rd w a la ca f) (hb : Rd w b lb cb g) :
    Calls Try.prog 10 #[.slice a la ca, .slice b lb cb] w fun r w' => ∃ v, r = .returned (.tuple #[v, .bool (polSub f la g lb).2]) ∧ Below w.heap.size w w' ∧ w'.ownsRow w.heap.size 43 5 v (polSub f la g lb).1.length (cellsL (polSub f la g lb).1) := by
  have HA := Hid.mk' ha
  have HB := Hid.mk' hb
  clear ha hb
  cases hpa : polOk la f
  · have e1 : polSub f la g lb = ([], false) := by simp [polSub, hpa]
    rw [e1]
    clear e1
    go_enter Try.func10, Try.ntmps10
    go_wp2_with fail
    refine (polOkS _ _ _ _ f HA.out).mono ?_
    rw [hpa]
    rintro r w1 ⟨rfl, h1⟩
    go_wp2
    go_ret2
    exact ⟨_, rfl, h1.alloc h1.size _, owns_none w1 _ h1.size⟩
  · cases hpb : polOk lb g
    · have e1 : polSub f la g lb = ([], false) := by simp [polSub, hpb]
      rw [e1]
      clear e1
      go_enter Try.func10, Try.ntmps10
      go_wp2_with fail
      refine (polOkS _ _ _ _ f HA.out).mono ?_
      rw [hpa]
      rintro r w1 ⟨rfl, h1⟩
      go_wp2_with fail
      refine (polOkS _ _ _ _ g (HB.out.below h1)).mono ?_
      rw [hpb]
      rintro r w2 ⟨rfl, h2⟩
      have h12 := bel_next h1 h2
      go_wp2
      go_ret2
      exact ⟨_, rfl, h12.alloc h12.size _, owns_none w2 _ h12.size⟩
    · obtain ⟨l1, c1⟩ := polOk_c hpa
      obtain ⟨l2, c2⟩ := polOk_c hpb
      have HC1 := Hid.mk' c1
      have HC2 := Hid.mk' c2
      have HC3 : Hid (∀ i, i < lb → 0 ≤ (negT g lb i).c ∧ (negT g lb i).c ≤ 100) := fun i hi => by
        unfold negT
        rw [lf_scT _ _ _ _ hi]
        show 0 ≤ 100 * (g i).c % 101 ∧ 100 * (g i).c % 101 ≤ 100
        omega
      have hlen := addT_len f la (negT g lb) lb 0 0
      clear c1 c2
      go_enter Try.func10, Try.ntmps10
      go_wp2_with fail
      refine (polOkS _ _ _ _ f HA.out).mono ?_
      rw [hpa]
      rintro r w1 ⟨rfl, h1⟩
      go_wp2_with fail
      refine (polOkS _ _ _ _ g (HB.out.below h1)).mono ?_
      rw [hpb]
      rintro r w2 ⟨rfl, h2⟩
      have h12 := Hid.mk' (bel_next h1 h2)
      clear h1 h2
      go_wp2_with fail
      refine (l3ScaleS _ _ _ _ _ g (HB.out.below h12.out) (by omega) (by omega) (by omega) HC2.out).mono ?_
      rw [if_neg (by omega)]
      rintro r w3 ⟨v3, rfl, h3, hown3⟩
      have hown3' : w3.ownsRow w2.heap.size 43 5 v3 (scT 100 g lb).length (cellsL (scT 100 g lb)) := by rw [scT_len]; exact hown3
      obtain ⟨a3, cap3, rfl, hout3⟩ := out_of_owns hown3' (by rw [scT_len]; omega)
      have R3 : Hid (Rd w3 a3 lb cap3 (negT g lb)) := by
        have := hout3.1
        rw [scT_len] at this
        exact this
      have h123 := Hid.mk' (bel_next h12.out h3)
      clear hown3 hown3' hout3 h3 h12
      rw [scT_len]
      go_wp2_with fail
      refine (l3AddS _ _ _ _ _ _ _ f (negT g lb) (HA.out.below h123.out) R3.out (by omega) HC1.out HC3.out).mono ?_
      rintro r w4 ⟨v, rfl, h4, hown⟩
      have h4' := Hid.mk' (bel_next h123.out h4)
      have hlow := owns_lower hown h123.out.size
      obtain ⟨a', cap', rfl, hout⟩ := out_of_owns hlow (by omega)
      have HO := Hid.mk' hlow
      clear hown hlow hout h4
      by_cases hle : (addT f la (negT g lb) lb 0 0).length ≤ 400
      · have E1 := Hid.mk' (show polSub f la g lb = (addT f la (negT g lb) lb 0 0, true) by simp [polSub, hpa, hpb, hle])
        have hle' : ((addT f la (negT g lb) lb 0 0).length : Int) ≤ 400 := by omega
        go_wp2
        go_ret2
        rw [E1.out]
        exact ⟨_, rfl, h4'.out, HO.out⟩
      · have E1 := Hid.mk' (show polSub f la g lb = ([], false) by simp [polSub, hle])
        have hle' : (400 : Int) < ((addT f la (negT g lb) lb 0 0).length : Int) := by omega
        go_wp2
        go_ret2
        rw [E1.out]
        exact ⟨_, rfl, h4'.out.alloc h4'.out.size _, owns_none w4 _ h4'.out.size⟩
theorem polOk_m {n : Nat} {f : Nat → T} (h : polOk n f = true) : ∀ i, i < n → (f i).m.ok = true := by
  intro i hi
  simp only [polOk, decide_eq_true_eq] at h
  have := h.2 i hi
  simp only [okAt, Bool.and_eq_true, decide_eq_true_eq] at this
  exact this.1.2
/-- PolFree. -/
def polFree (n : Nat) (f : Nat → T) : Bool := polOk n f && decide (∀ i, i < n → (f i).m.d + (f i).m.e ≤ 0)
/-- which term is the greatest, of those from the i-th on and the k-th. -/
def leadFrom (o : Int) (f : Nat → T) : Nat → Nat → Nat → Nat
  | 0, _, k => k
  | u + 1, i, k => if 0 < M.ord o (f i).m (f k).m then leadFrom o f u (i + 1) i else leadFrom o f u (i + 1) k
def leadAt (o : Int) (f : Nat → T) (n : Nat) : Nat := leadFrom o f (n - 1) 1 0
end Go.Proofs.Ytahbekfhoidgjau
