/-
  What is true of products: brackets, sums on both sides, how far two are apart.
  The least monomial that two divide: the model's and the program's function.
  Slices of slices of terms: how they are read, copied, counted and held against each other.
-/
import Derived.Test.YtmlaedpamobmhaaGreatPay
import Derived.Test.YtmlaedpamobmhaaGreatPac
import Derived.Test.YtmlaedpamobmhaaGreatPad
import Derived.Deep.RegionHeld3
import Derived.Deep.Light
import Derived.Test.YtmlaedpamobmhaaGreatPae
import Derived.Test.YtmlaedpamobmhaaGreatPag
namespace Go.Proofs.YtmlaedpamobmhaaGreat
open Go.RowKit
set_option linter.unusedVariables false

theorem wm_ok {A B P : List T} (h : wmV A B = (P, true)) : okL P = true := by
  rcases wmV_case A B with h1 | ⟨Q, h1, o⟩
  · rw [h1] at h; simp at h
  · rw [h1] at h
    simp only [Prod.mk.injEq, and_true] at h
    rw [← h]; exact o
theorem wmV_if (A B : List T) : wmV A B = ([], false) ∨ ∃ P, wmV A B = (P, true) := (wmV_case A B).imp id (fun ⟨P, h, _⟩ => ⟨P, h⟩)
theorem wm_falls {A B P : List T} (h : wmV A B = (P, true)) : Falls P := (okL_falls (wm_ok h)).2
theorem wm_args {A B P : List T} (h : wmV A B = (P, true)) : okL A = true ∧ okL B = true := by
  unfold wmV wylMul at h
  split at h
  · rename_i hh; exact hh
  · simp at h
/-! so many times a product -/
def scT1 (c : Int) (t : T) : T := ⟨c * t.c % 101, t.m⟩
theorem addL_sc {c : Int} (c1 : 1 ≤ c) (c2 : c ≤ 100) {K X : List T} (hK : Falls K) (hX : Falls X) : addL (scL c K) (scL c X) = scL c (addL K X) := by
  have f1 := scL_falls c1 c2 hK
  have f2 := scL_falls c1 c2 hX
  refine eq_of_Rp (addL_facts f1 f2).1 (scL_falls c1 c2 (addL_facts hK hX).1) ?_
  rw [Rp_add _ f1 f2, Rp_sc, Rp_sc, Rp_sc, Rp_add _ hK hX, Lq.sc_sum]
theorem pair_sc {c : Int} (c1 : 1 ≤ c) (c2 : c ≤ 100) {a b : T} {m : M} (h : Two a b m) : Two (scT1 c a) b m ∧ pairL (scT1 c a) b = scL c (pairL a b) := by
  have h2 : Two (scT1 c a) b m := ⟨h.ok1, h.ok2, h.ok3, h.gx, h.gy, h.gd, h.ge, ⟨by show 0 ≤ c * a.c % 101; omega, by show c * a.c % 101 ≤ 100; omega⟩, h.c2⟩
  refine ⟨h2, eq_of_Rp (pairL_facts h2).1 (scL_falls c1 c2 (pairL_facts h).1) ?_⟩
  rw [Rp_pair _ h2, Rp_sc, Rp_pair _ h, Lq.sc_sc]
  congr 1
  show zz (c * a.c % 101) * zz b.c = _
  rw [zz_mod, zz_mul]; grind
theorem rowM_sc {c : Int} (c1 : 1 ≤ c) (c2 : c ≤ 100) {K : List T} {a : T} {f : Nat → T} {lb : Nat} (hK : Falls K) (ha : a.m.ok = true ∧ 0 ≤ a.c ∧ a.c ≤ 100) (hg : Good f lb) : ∀ k, k ≤ lb → rowM (scL c K) (scT1 c a) f k = (rowM K a f k).map (scL c)
  | 0, _ => rfl
  | k + 1, hk => by
    rw [rowM, rowM, rowM_sc c1 c2 hK ha hg k (by omega)]
    cases hr : rowM K a f k with
    | none => rfl
    | some K1 =>
      show stepM (scL c K1) (scT1 c a) (f k) = (stepM K1 a (f k)).map (scL c)
      have hf1 := rowM_falls2 hK ha hg k K1 (by omega) hr
      have h2 := hg k (by omega)
      unfold stepM
      show (if (a.m.sum (f k).m).ok = true ∧ (addL (scL c K1) (pairL (scT1 c a) (f k))).length ≤ 400 then some (addL (scL c K1) (pairL (scT1 c a) (f k))) else none) = _
      by_cases hok : (a.m.sum (f k).m).ok = true
      · have tw : Two a (f k) (a.m.sum (f k).m) := ⟨ha.1, h2.1, hok, rfl, rfl, rfl, rfl, ha.2, h2.2⟩
        rw [(pair_sc c1 c2 tw).2, addL_sc c1 c2 hf1 (pairL_facts tw).1, scL_len]
        by_cases hl : (addL K1 (pairL a (f k))).length ≤ 400
        · rw [if_pos ⟨hok, hl⟩, if_pos ⟨hok, hl⟩]; rfl
        · rw [if_neg (fun h => hl h.2), if_neg (fun h => hl h.2)]; rfl
      · rw [if_neg (fun h => hok h.1), if_neg (fun h => hok h.1)]; rfl
theorem mulM_sc {c : Int} (c1 : 1 ≤ c) (c2 : c ≤ 100) {f f' f2 : Nat → T} {la lb : Nat} (hf : Good f la) (hg : Good f' lb) (he : ∀ i, i < la → f2 i = scT1 c (f i)) : ∀ i, i ≤ la → mulM f2 f' lb i = (mulM f f' lb i).map (scL c)
  | 0, _ => by show some [] = some (scL c []); rw [show scL c [] = [] from by rw [scL_map]; rfl]
  | i + 1, hi => by
    rw [mulM, mulM, mulM_sc c1 c2 hf hg he i (by omega)]
    cases hr : mulM f f' lb i with
    | none => rfl
    | some K1 =>
      show rowM (scL c K1) (f2 i) f' lb = (rowM K1 (f i) f' lb).map (scL c)
      rw [he i (by omega)]
      exact rowM_sc c1 c2 (mulM_falls2 hf hg i K1 (by omega) hr) (hf i (by omega)) hg lb (Nat.le_refl _)
/-! how far two are apart -/
theorem sum_f (A B : Lq) (u : Vq) (n k : Nat) : (Lq.sum A B).f u n k = A.f u n k + B.f u n k := rfl
theorem sc_f (c : Fq) (A : Lq) (u : Vq) (n k : Nat) : (Lq.sc c A).f u n k = c * A.f u n k := rfl
end Go.Proofs.YtmlaedpamobmhaaGreat
namespace Go.Proofs.YtmlaedpamobmhaaGreat
open Go.RowKit
set_option linter.unusedVariables false

def S8 (u : World) (n : Nat) (x0 y0 z0 u0 x1 y1 z1 u1 : Int) : Prop := u.cell? ⟨n, 0, none⟩ = some (.int .i64 x0) ∧ u.cell? ⟨n, 1, none⟩ = some (.int .i64 y0) ∧ u.cell? ⟨n, 2, none⟩ = some (.int .i64 z0) ∧ u.cell? ⟨n, 3, none⟩ = some (.int .i64 u0) ∧ u.cell? ⟨n + 1, 0, none⟩ = some (.int .i64 x1) ∧ u.cell? ⟨n + 1, 1, none⟩ = some (.int .i64 y1) ∧ u.cell? ⟨n + 1, 2, none⟩ = some (.int .i64 z1) ∧ u.cell? ⟨n + 1, 3, none⟩ = some (.int .i64 u1)
theorem S8.mk {u : World} {n : Nat} {x0 y0 z0 u0 x1 y1 z1 u1 : Int} (ha : M4 u n x0 y0 z0 u0) (hb : M4 u (n + 1) x1 y1 z1 u1) : S8 u n x0 y0 z0 u0 x1 y1 z1 u1 :=
  ⟨ha.1, ha.2.1, ha.2.2.1, ha.2.2.2, hb.1, hb.2.1, hb.2.2.1, hb.2.2.2⟩
theorem S8.a {u : World} {n : Nat} {x0 y0 z0 u0 x1 y1 z1 u1 : Int} (h : S8 u n x0 y0 z0 u0 x1 y1 z1 u1) : M4 u n x0 y0 z0 u0 := ⟨h.1, h.2.1, h.2.2.1, h.2.2.2.1⟩
theorem S8.b {u : World} {n : Nat} {x0 y0 z0 u0 x1 y1 z1 u1 : Int} (h : S8 u n x0 y0 z0 u0 x1 y1 z1 u1) : M4 u (n + 1) x1 y1 z1 u1 := ⟨h.2.2.2.2.1, h.2.2.2.2.2.1, h.2.2.2.2.2.2.1, h.2.2.2.2.2.2.2⟩
theorem s8_drew {u : World} {n : Nat} {x0 y0 z0 u0 x1 y1 z1 u1 : Int} (h : S8 u n x0 y0 z0 u0 x1 y1 z1 u1) : S8 u.drew n x0 y0 z0 u0 x1 y1 z1 u1 := .mk h.a.drew' h.b.drew'
theorem m4_far {u : World} {B b : Nat} {v0 v1 v2 v3 : Value} {x y d e : Int} (m : M4 u b x y d e) (h : b ≠ B) : M4 ((((u.setCell ⟨B, 0, none⟩ v0).setCell ⟨B, 1, none⟩ v1).setCell ⟨B, 2, none⟩ v2).setCell ⟨B, 3, none⟩ v3) b x y d e :=
  ⟨(far4 h).trans m.1, (far4 h).trans m.2.1, (far4 h).trans m.2.2.1, (far4 h).trans m.2.2.2⟩
theorem s8_set {u : World} {n B : Nat} {v0 v1 v2 v3 : Value} {x0 y0 z0 u0 x1 y1 z1 u1 : Int} (h : S8 u n x0 y0 z0 u0 x1 y1 z1 u1) (hB : n + 1 < B) : S8 ((((u.setCell ⟨B, 0, none⟩ v0).setCell ⟨B, 1, none⟩ v1).setCell ⟨B, 2, none⟩ v2).setCell ⟨B, 3, none⟩ v3) n x0 y0 z0 u0 x1 y1 z1 u1 :=
  .mk (m4_far h.a (by omega)) (m4_far h.b (by omega))
set_option maxHeartbeats 4000000 in
theorem monBothS (x y d e x' y' d' e' : Int) (w : World) :
    Calls Tryz.prog 118 #[.agg #[.int .i64 x, .int .i64 y, .int .i64 d, .int .i64 e], .agg #[.int .i64 x', .int .i64 y', .int .i64 d', .int .i64 e']] w fun r w' => r = .returned (.agg #[.int .i64 (M.both ⟨x, y, d, e⟩ ⟨x', y', d', e'⟩).x, .int .i64 (M.both ⟨x, y, d, e⟩ ⟨x', y', d', e'⟩).y, .int .i64 (M.both ⟨x, y, d, e⟩ ⟨x', y', d', e'⟩).d, .int .i64 (M.both ⟨x, y, d, e⟩ ⟨x', y', d', e'⟩).e]) ∧ Below w.heap.size w w' := by
  cases ha : M.ok ⟨x, y, d, e⟩
  · have r1 : M.both ⟨x, y, d, e⟩ ⟨x', y', d', e'⟩ = M.zero := by simp [M.both, ha]
    rw [r1]
    simp only [M.zero]
    clear r1
    go_enter Tryz.func118, Tryz.ntmps118
    go_wp2_with fail
    refine (monOkS_of ha _).mono ?_
    rintro r w1 ⟨rfl, hb1⟩
    obtain ⟨hc1, hf1⟩ := bcell hb1
    have hz1 : w.heap.size + 1 + 1 < w1.heap.size := by have := hb1.size; simp at this; omega
    go_wp2
    refine bodyPost_ret (v := .agg #[.int .i64 0, .int .i64 0, .int .i64 0, .int .i64 0]) (by simp [results, Tryz.results118, go_sem, *]) rfl ⟨rfl, ?_⟩
    exact bel_set4 (bel_next (bel_three w _ _ _) hb1) (by omega) _ _ _ _
  · cases hb : M.ok ⟨x', y', d', e'⟩
    · have r1 : M.both ⟨x, y, d, e⟩ ⟨x', y', d', e'⟩ = M.zero := by simp [M.both, hb]
      rw [r1]
      simp only [M.zero]
      clear r1
      go_enter Tryz.func118, Tryz.ntmps118
      go_wp2_with fail
      refine (monOkS_of ha _).mono ?_
      rintro r w1 ⟨rfl, hb1⟩
      obtain ⟨hc1, hf1⟩ := bcell hb1
      have hz1 : w.heap.size + 1 + 1 < w1.heap.size := by have := hb1.size; simp at this; omega
      go_wp2_with fail
      refine (monOkS_of hb _).mono ?_
      rintro r w2 ⟨rfl, hb2⟩
      obtain ⟨hc2, hf2⟩ := bcell hb2
      have hz2 : w.heap.size + 1 + 1 < w2.heap.size := by have := hb2.size; omega
      go_wp2
      refine bodyPost_ret (v := .agg #[.int .i64 0, .int .i64 0, .int .i64 0, .int .i64 0]) (by simp [results, Tryz.results118, go_sem, *]) rfl ⟨rfl, ?_⟩
      exact bel_set4 (bel_next (bel_next (bel_three w _ _ _) hb1) hb2) (by omega) _ _ _ _
    · have r1 : M.both ⟨x, y, d, e⟩ ⟨x', y', d', e'⟩ = ⟨mx x x', mx y y', mx d d', mx e e'⟩ := by simp [M.both, ha, hb]
      rw [r1]
      clear r1
      go_enter Tryz.func118, Tryz.ntmps118
      go_wp2_with fail
      refine (monOkS_of ha _).mono ?_
      rintro r w1 ⟨rfl, hb1⟩
      obtain ⟨hc1, hf1⟩ := bcell hb1
      have hz1 : w.heap.size + 1 + 1 < w1.heap.size := by have := hb1.size; simp at this; omega
      have hz0 : w.heap.size + 1 < w1.heap.size := by omega
      have hzz : w.heap.size < w1.heap.size := by omega
      go_wp2_with fail
      refine (monOkS_of hb _).mono ?_
      rintro r w2 ⟨rfl, hb2⟩
      obtain ⟨hc2, hf2⟩ := bcell hb2
      have hz2 : w.heap.size + 1 + 1 < w2.heap.size := by have := hb2.size; omega
      have q0 : w2.cell? ⟨w.heap.size, 0, none⟩ = some (.int .i64 x) := by go_simp
      have q1 : w2.cell? ⟨w.heap.size, 1, none⟩ = some (.int .i64 y) := by go_simp
      have q2 : w2.cell? ⟨w.heap.size, 2, none⟩ = some (.int .i64 d) := by go_simp
      have q3 : w2.cell? ⟨w.heap.size, 3, none⟩ = some (.int .i64 e) := by go_simp
      have p0 : w2.cell? ⟨w.heap.size + 1, 0, none⟩ = some (.int .i64 x') := by go_simp
      have p1 : w2.cell? ⟨w.heap.size + 1, 1, none⟩ = some (.int .i64 y') := by go_simp
      have p2 : w2.cell? ⟨w.heap.size + 1, 2, none⟩ = some (.int .i64 d') := by go_simp
      have p3 : w2.cell? ⟨w.heap.size + 1, 3, none⟩ = some (.int .i64 e') := by go_simp
      have t0 : w2.cell? ⟨w.heap.size + 1 + 1, 0, none⟩ = some (.int .i64 0) := by go_simp
      have t1 : w2.cell? ⟨w.heap.size + 1 + 1, 1, none⟩ = some (.int .i64 0) := by go_simp
      have t2 : w2.cell? ⟨w.heap.size + 1 + 1, 2, none⟩ = some (.int .i64 0) := by go_simp
      have t3 : w2.cell? ⟨w.heap.size + 1 + 1, 3, none⟩ = some (.int .i64 0) := by go_simp
      have z0 : ∀ i, w2.frozen? ⟨w.heap.size + 1 + 1, i, none⟩ = false := fun i => by go_simp
      have HB := Hid.mk' (bel_next (bel_next (bel_three w _ _ _) hb1) hb2)
      clear hc1 hf1 hc2 hf2 hb1 hb2
      go_wp2_with fail
      have hS0 : S8 w2 w.heap.size x y d e x' y' d' e' := ⟨q0, q1, q2, q3, p0, p1, p2, p3⟩
      go_region_held3 (fun u => u.cell? ⟨w.heap.size, 0, none⟩ = some (.int .i64 x) ∧ u.cell? ⟨w.heap.size, 1, none⟩ = some (.int .i64 y) ∧ u.cell? ⟨w.heap.size, 2, none⟩ = some (.int .i64 d) ∧ u.cell? ⟨w.heap.size, 3, none⟩ = some (.int .i64 e) ∧ u.cell? ⟨w.heap.size + 1, 0, none⟩ = some (.int .i64 x') ∧ u.cell? ⟨w.heap.size + 1, 1, none⟩ = some (.int .i64 y') ∧ u.cell? ⟨w.heap.size + 1, 2, none⟩ = some (.int .i64 d') ∧ u.cell? ⟨w.heap.size + 1, 3, none⟩ = some (.int .i64 e')) (first | exact s8_drew hS0 | exact s8_set (by assumption) (by omega)) (first | (go_at_call 149; refine (maxS _ _ _).mono ?_; rintro r w7 ⟨rfl, hw7⟩; obtain rfl := hw7.symm; clear hw7))
      go_wp2
      refine bodyPost_ret (v := .agg #[.int .i64 (mx x x'), .int .i64 (mx y y'), .int .i64 (mx d d'), .int .i64 (mx e e')]) (by simp [results, Tryz.results118, go_sem, *]) rfl ⟨rfl, ?_⟩
      exact bel_set4 HB.out.drew (by omega) _ _ _ _
end Go.Proofs.YtmlaedpamobmhaaGreat
namespace Go.Proofs.YtmlaedpamobmhaaGreat
open Go.RowKit Go.Deep Go.Joins
set_option linter.unusedVariables false

/-- a slice of slices of terms that can be read. -/
def RdS (w : World) (a : Option Addr) (n cap : Nat) (ad : Nat → Option Addr) (ln cp : Nat → Nat) (f : Nat → Nat → T) : Prop :=
  n ≤ cap ∧ n * 40 ≤ 140737488351232 ∧ (n = 0 ∨ ∃ b off, a = some ⟨b, off, none⟩ ∧ b < w.heap.size ∧ ∀ i, i < n → w.cell? ⟨b, off + i, none⟩ = some (.slice (ad i) (ln i) (cp i))) ∧ ∀ i, i < n → Rd w (ad i) (ln i) (cp i) (f i)
theorem RdS.below {w w' : World} {a : Option Addr} {n cap : Nat} {ad : Nat → Option Addr} {ln cp : Nat → Nat} {f : Nat → Nat → T} (h : RdS w a n cap ad ln cp f) (hb : Below w.heap.size w w') : RdS w' a n cap ad ln cp f := by
  refine ⟨h.1, h.2.1, ?_, fun i hi => (h.2.2.2 i hi).below hb⟩
  rcases h.2.2.1 with h0 | ⟨b, off, he, hlt, hc⟩
  · exact .inl h0
  · exact .inr ⟨b, off, he, Nat.lt_of_lt_of_le hlt hb.size, fun i hi => (hb.cell (p := ⟨b, off + i, none⟩) hlt).trans (hc i hi)⟩
end Go.Proofs.YtmlaedpamobmhaaGreat
