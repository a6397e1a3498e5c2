/-
  What is true of products: brackets, sums on both sides, how far two are apart.
  The least monomial that two divide: the model's and the program's function.
  Slices of slices of terms: how they are read, copied, counted and held against each other.
-/
import Derived.Test.YtdidlcjhodejjaaGreatGay
import Derived.Test.YtdidlcjhodejjaaGreatGac
import Derived.Test.YtdidlcjhodejjaaGreatGad
import Derived.Deep.RegionHeld3
import Derived.Deep.Light
import Derived.Test.YtdidlcjhodejjaaGreatGae
import Derived.Test.YtdidlcjhodejjaaGreatGag
namespace Go.Proofs.YtdidlcjhodejjaaGreat
open Go.RowKit
set_option linter.unusedVariables false

theorem wm_ok {A B P : List T} (h : wmV A B = (P, true)) : okL P = true := by
  rcases wmV_case A B with h1 | ⟨Q, h1, o⟩
  · rw [h1] at h; simp at h
  · rw [h1] at h
    simp only [Prod.mk.injEq, and_true] at h
    rw [← h]; exact o
theorem wmV_if (A B : List T) : wmV A B = ([], false) ∨ ∃ P, wmV A B = (P, true) := (wmV_case A B).imp id (fun ⟨P, h, _⟩ => ⟨P, h⟩)
theorem addV_if (A B : List T) : addV A B = ([], false) ∨ ∃ P, addV A B = (P, true) := (addV_case A B).imp id (fun ⟨_, _, _, h⟩ => ⟨_, h⟩)
theorem wm_falls {A B P : List T} (h : wmV A B = (P, true)) : Falls P := (okL_falls (wm_ok h)).2
theorem wm_args {A B P : List T} (h : wmV A B = (P, true)) : okL A = true ∧ okL B = true := by
  unfold wmV wylMul at h
  split at h
  · rename_i hh; exact hh
  · simp at h
theorem wm_assoc {A B C X Y U V : List T} (h1 : wmV A B = (X, true)) (h2 : wmV B C = (Y, true)) (h3 : wmV X C = (U, true)) (h4 : wmV A Y = (V, true)) : U = V := by
  refine eq_of_Rp (wm_falls h3) (wm_falls h4) ?_
  rw [Rp_mul _ h3, Rp_mul _ h1, Rp_mul _ h4, Rp_mul _ h2, Lq.mul_assoc]
theorem addV_eq {A B S : List T} (oA : okL A = true) (oB : okL B = true) (oS : okL S = true) (h : Lq.sum (Rp stdG A) (Rp stdG B) = Rp stdG S) : addV A B = (S, true) := by
  have e : addL A B = S := eq_of_Rp (addL_facts (okL_falls oA).2 (okL_falls oB).2).1 (okL_falls oS).2 (by rw [Rp_add _ (okL_falls oA).2 (okL_falls oB).2]; exact h)
  rw [addV_ok oA oB (by rw [e]; exact (okL_falls oS).1), e]
theorem wm_left {A B C S X Y U : List T} (hS : addV B C = (S, true)) (h1 : wmV A B = (X, true)) (h2 : wmV A C = (Y, true)) (h3 : wmV A S = (U, true)) : addV X Y = (U, true) := by
  rcases addV_case B C with h | ⟨oB, oC, hl, h⟩
  · rw [h] at hS; simp at hS
  rw [h] at hS
  simp only [Prod.mk.injEq, and_true] at hS
  refine addV_eq (wm_ok h1) (wm_ok h2) (wm_ok h3) ?_
  rw [Rp_mul _ h1, Rp_mul _ h2, Rp_mul _ h3, ← hS, Rp_add _ (okL_falls oB).2 (okL_falls oC).2, Lq.mul_sum]
theorem wm_right {A B C S X Y U : List T} (hS : addV B C = (S, true)) (h1 : wmV B A = (X, true)) (h2 : wmV C A = (Y, true)) (h3 : wmV S A = (U, true)) : addV X Y = (U, true) := by
  rcases addV_case B C with h | ⟨oB, oC, hl, h⟩
  · rw [h] at hS; simp at hS
  rw [h] at hS
  simp only [Prod.mk.injEq, and_true] at hS
  refine addV_eq (wm_ok h1) (wm_ok h2) (wm_ok h3) ?_
  rw [Rp_mul _ h1, Rp_mul _ h2, Rp_mul _ h3, ← hS, Rp_add _ (okL_falls oB).2 (okL_falls oC).2, Lq.sum_mul]
/-! so many times a product -/
def scT1 (c : Int) (t : T) : T := ⟨c * t.c % 101, t.m⟩
theorem addL_sc {c : Int} (c1 : 1 ≤ c) (c2 : c ≤ 100) {K X : List T} (hK : Falls K) (hX : Falls X) : addL (scL c K) (scL c X) = scL c (addL K X) := by
  have f1 := scL_falls c1 c2 hK
  have f2 := scL_falls c1 c2 hX
  refine eq_of_Rp (addL_facts f1 f2).1 (scL_falls c1 c2 (addL_facts hK hX).1) ?_
  rw [Rp_add _ f1 f2, Rp_sc, Rp_sc, Rp_sc, Rp_add _ hK hX, Lq.sc_sum]
theorem pair_sc {c : Int} (c1 : 1 ≤ c) (c2 : c ≤ 100) {a b : T} {m : M} (h : Two a b m) : Two (scT1 c a) b m ∧ pairL (scT1 c a) b = scL c (pairL a b) := by
  have h2 : Two (scT1 c a) b m := ⟨h.ok1, h.ok2, h.ok3, h.gx, h.gy, h.gd, h.ge, ⟨by show 0 ≤ c * a.c % 101; omega, by show c * a.c % 101 ≤ 100; omega⟩, h.c2⟩
  refine ⟨h2, eq_of_Rp (pairL_facts h2).1 (scL_falls c1 c2 (pairL_facts h).1) ?_⟩
  rw [Rp_pair _ h2, Rp_sc, Rp_pair _ h, Lq.sc_sc]
  congr 1
  show zz (c * a.c % 101) * zz b.c = _
  rw [zz_mod, zz_mul]; grind
theorem rowM_sc {c : Int} (c1 : 1 ≤ c) (c2 : c ≤ 100) {K : List T} {a : T} {f : Nat → T} {lb : Nat} (hK : Falls K) (ha : a.m.ok = true ∧ 0 ≤ a.c ∧ a.c ≤ 100) (hg : Good f lb) : ∀ k, k ≤ lb → rowM (scL c K) (scT1 c a) f k = (rowM K a f k).map (scL c)
  | 0, _ => rfl
  | k + 1, hk => by
    rw [rowM, rowM, rowM_sc c1 c2 hK ha hg k (by omega)]
    cases hr : rowM K a f k with
    | none => rfl
    | some K1 =>
      show stepM (scL c K1) (scT1 c a) (f k) = (stepM K1 a (f k)).map (scL c)
      have hf1 := rowM_falls2 hK ha hg k K1 (by omega) hr
      have h2 := hg k (by omega)
      unfold stepM
      show (if (a.m.sum (f k).m).ok = true ∧ (addL (scL c K1) (pairL (scT1 c a) (f k))).length ≤ 400 then some (addL (scL c K1) (pairL (scT1 c a) (f k))) else none) = _
      by_cases hok : (a.m.sum (f k).m).ok = true
      · have tw : Two a (f k) (a.m.sum (f k).m) := ⟨ha.1, h2.1, hok, rfl, rfl, rfl, rfl, ha.2, h2.2⟩
        rw [(pair_sc c1 c2 tw).2, addL_sc c1 c2 hf1 (pairL_facts tw).1, scL_len]
        by_cases hl : (addL K1 (pairL a (f k))).length ≤ 400
        · rw [if_pos ⟨hok, hl⟩, if_pos ⟨hok, hl⟩]; rfl
        · rw [if_neg (fun h => hl h.2), if_neg (fun h => hl h.2)]; rfl
      · rw [if_neg (fun h => hok h.1), if_neg (fun h => hok h.1)]; rfl
theorem mulM_sc {c : Int} (c1 : 1 ≤ c) (c2 : c ≤ 100) {f f' f2 : Nat → T} {la lb : Nat} (hf : Good f la) (hg : Good f' lb) (he : ∀ i, i < la → f2 i = scT1 c (f i)) : ∀ i, i ≤ la → mulM f2 f' lb i = (mulM f f' lb i).map (scL c)
  | 0, _ => by show some [] = some (scL c []); rw [show scL c [] = [] from by rw [scL_map]; rfl]
  | i + 1, hi => by
    rw [mulM, mulM, mulM_sc c1 c2 hf hg he i (by omega)]
    cases hr : mulM f f' lb i with
    | none => rfl
    | some K1 =>
      show rowM (scL c K1) (f2 i) f' lb = (rowM K1 (f i) f' lb).map (scL c)
      rw [he i (by omega)]
      exact rowM_sc c1 c2 (mulM_falls2 hf hg i K1 (by omega) hr) (hf i (by omega)) hg lb (Nat.le_refl _)
theorem wm_sc {c : Int} (c1 : 1 ≤ c) (c2 : c ≤ 100) {A B P : List T} (h : wmV A B = (P, true)) : wmV (scL c A) B = (scL c P, true) := by
  obtain ⟨oA, oB⟩ := wm_args h
  have oS : okL (scL c A) = true := okL_of (by rw [scL_len]; exact (okL_falls oA).1) (scL_falls c1 c2 (okL_falls oA).2)
  unfold wmV wylMul at h ⊢
  rw [if_pos ⟨oA, oB⟩] at h
  rw [if_pos ⟨oS, oB⟩]
  obtain ⟨l1, g1⟩ := good_ok oA
  obtain ⟨l2, g2⟩ := good_ok oB
  rw [scL_len, mulM_sc c1 c2 g1 g2 (fun i hi => by rw [scL, lf_scT _ _ _ _ hi]; rfl) A.length (Nat.le_refl _)]
  cases hm : mulM (lf A) (lf B) B.length A.length with
  | none => rw [hm] at h; simp [mulO] at h
  | some K =>
    rw [hm] at h
    have : K = P := by simpa [mulO] using h
    rw [this]; rfl
/-! how far two are apart -/
theorem sum_f (A B : Lq) (u : Vq) (n k : Nat) : (Lq.sum A B).f u n k = A.f u n k + B.f u n k := rfl
theorem sc_f (c : Fq) (A : Lq) (u : Vq) (n k : Nat) : (Lq.sc c A).f u n k = c * A.f u n k := rfl
theorem nil_f (u : Vq) (n k : Nat) : Lq.nil.f u n k = 0 := rfl
end Go.Proofs.YtdidlcjhodejjaaGreat
namespace Go.Proofs.YtdidlcjhodejjaaGreat
open Go.RowKit
set_option linter.unusedVariables false

def S8 (u : World) (n : Nat) (x0 y0 z0 u0 x1 y1 z1 u1 : Int) : Prop := u.cell? ⟨n, 0, none⟩ = some (.int .i64 x0) ∧ u.cell? ⟨n, 1, none⟩ = some (.int .i64 y0) ∧ u.cell? ⟨n, 2, none⟩ = some (.int .i64 z0) ∧ u.cell? ⟨n, 3, none⟩ = some (.int .i64 u0) ∧ u.cell? ⟨n + 1, 0, none⟩ = some (.int .i64 x1) ∧ u.cell? ⟨n + 1, 1, none⟩ = some (.int .i64 y1) ∧ u.cell? ⟨n + 1, 2, none⟩ = some (.int .i64 z1) ∧ u.cell? ⟨n + 1, 3, none⟩ = some (.int .i64 u1)
theorem S8.mk {u : World} {n : Nat} {x0 y0 z0 u0 x1 y1 z1 u1 : Int} (ha : M4 u n x0 y0 z0 u0) (hb : M4 u (n + 1) x1 y1 z1 u1) : S8 u n x0 y0 z0 u0 x1 y1 z1 u1 :=
  ⟨ha.1, ha.2.1, ha.2.2.1, ha.2.2.2, hb.1, hb.2.1, hb.2.2.1, hb.2.2.2⟩
theorem S8.a {u : World} {n : Nat} {x0 y0 z0 u0 x1 y1 z1 u1 : Int} (h : S8 u n x0 y0 z0 u0 x1 y1 z1 u1) : M4 u n x0 y0 z0 u0 := ⟨h.1, h.2.1, h.2.2.1, h.2.2.2.1⟩
theorem S8.b {u : World} {n : Nat} {x0 y0 z0 u0 x1 y1 z1 u1 : Int} (h : S8 u n x0 y0 z0 u0 x1 y1 z1 u1) : M4 u (n + 1) x1 y1 z1 u1 := ⟨h.2.2.2.2.1, h.2.2.2.2.2.1, h.2.2.2.2.2.2.1, h.2.2.2.2.2.2.2⟩
theorem s8_drew {u : World} {n : Nat} {x0 y0 z0 u0 x1 y1 z1 u1 : Int} (h : S8 u n x0 y0 z0 u0 x1 y1 z1 u1) : S8 u.drew n x0 y0 z0 u0 x1 y1 z1 u1 := .mk h.a.drew' h.b.drew'
theorem m4_far {u : World} {B b : Nat} {v0 v1 v2 v3 : Value} {x y d e : Int} (m : M4 u b x y d e) (h : b ≠ B) : M4 ((((u.setCell ⟨B, 0, none⟩ v0).setCell ⟨B, 1, none⟩ v1).setCell ⟨B, 2, none⟩ v2).setCell ⟨B, 3, none⟩ v3) b x y d e :=
  ⟨(far4 h).trans m.1, (far4 h).trans m.2.1, (far4 h).trans m.2.2.1, (far4 h).trans m.2.2.2⟩
theorem s8_set {u : World} {n B : Nat} {v0 v1 v2 v3 : Value} {x0 y0 z0 u0 x1 y1 z1 u1 : Int} (h : S8 u n x0 y0 z0 u0 x1 y1 z1 u1) (hB : n + 1 < B) : S8 ((((u.setCell ⟨B, 0, none⟩ v0).setCell ⟨B, 1, none⟩ v1).setCell ⟨B, 2, none⟩ v2).setCell ⟨B, 3, none⟩ v3) n x0 y0 z0 u0 x1 y1 z1 u1 :=
  .mk (m4_far h.a (by omega)) (m4_far h.b (by omega))
set_option maxHeartbeats 4000000 in
theorem monBothS (x y d e x' y' d' e' : Int) (w : World) :
    Calls Tryz.prog 159 #[.agg #[.int .i64 x, .int .i64 y, .int .i64 d, .int .i64 e], .agg #[.int .i64 x', .int .i64 y', .int .i64 d', .int .i64 e']] w fun r w' => r = .returned (.agg #[.int .i64 (M.both ⟨x, y, d, e⟩ ⟨x', y', d', e'⟩).x, .int .i64 (M.both ⟨x, y, d, e⟩ ⟨x', y', d', e'⟩).y, .int .i64 (M.both ⟨x, y, d, e⟩ ⟨x', y', d', e'⟩).d, .int .i64 (M.both ⟨x, y, d, e⟩ ⟨x', y', d', e'⟩).e]) ∧ Below w.heap.size w w' := by
  cases ha : M.ok ⟨x, y, d, e⟩
  · have r1 : M.both ⟨x, y, d, e⟩ ⟨x', y', d', e'⟩ = M.zero := by simp [M.both, ha]
    rw [r1]
    simp only [M.zero]
    clear r1
    go_enter Tryz.func159, Tryz.ntmps159
    go_wp2_with fail
    refine (monOkS_of ha _).mono ?_
    rintro r w1 ⟨rfl, hb1⟩
    obtain ⟨hc1, hf1⟩ := bcell hb1
    have hz1 : w.heap.size + 1 + 1 < w1.heap.size := by have := hb1.size; simp at this; omega
    go_wp2
    refine bodyPost_ret (v := .agg #[.int .i64 0, .int .i64 0, .int .i64 0, .int .i64 0]) (by simp [results, Tryz.results159, go_sem, *]) rfl ⟨rfl, ?_⟩
    exact bel_set4 (bel_next (bel_three w _ _ _) hb1) (by omega) _ _ _ _
  · cases hb : M.ok ⟨x', y', d', e'⟩
    · have r1 : M.both ⟨x, y, d, e⟩ ⟨x', y', d', e'⟩ = M.zero := by simp [M.both, hb]
      rw [r1]
      simp only [M.zero]
      clear r1
      go_enter Tryz.func159, Tryz.ntmps159
      go_wp2_with fail
      refine (monOkS_of ha _).mono ?_
      rintro r w1 ⟨rfl, hb1⟩
      obtain ⟨hc1, hf1⟩ := bcell hb1
      have hz1 : w.heap.size + 1 + 1 < w1.heap.size := by have := hb1.size; simp at this; omega
      go_wp2_with fail
      refine (monOkS_of hb _).mono ?_
      rintro r w2 ⟨rfl, hb2⟩
      obtain ⟨hc2, hf2⟩ := bcell hb2
      have hz2 : w.heap.size + 1 + 1 < w2.heap.size := by have := hb2.size; omega
      go_wp2
      refine bodyPost_ret (v := .agg #[.int .i64 0, .int .i64 0, .int .i64 0, .int .i64 0]) (by simp [results, Tryz.results159, go_sem, *]) rfl ⟨rfl, ?_⟩
      exact bel_set4 (bel_next (bel_next (bel_three w _ _ _) hb1) hb2) (by omega) _ _ _ _
    · have r1 : M.both ⟨x, y, d, e⟩ ⟨x', y', d', e'⟩ = ⟨mx x x', mx y y', mx d d', mx e e'⟩ := by simp [M.both, ha, hb]
      rw [r1]
      clear r1
      go_enter Tryz.func159, Tryz.ntmps159
      go_wp2_with fail
      refine (monOkS_of ha _).mono ?_
      rintro r w1 ⟨rfl, hb1⟩
      obtain ⟨hc1, hf1⟩ := bcell hb1
      have hz1 : w.heap.size + 1 + 1 < w1.heap.size := by have := hb1.size; simp at this; omega
      have hz0 : w.heap.size + 1 < w1.heap.size := by omega
      have hzz : w.heap.size < w1.heap.size := by omega
      go_wp2_with fail
      refine (monOkS_of hb _).mono ?_
      rintro r w2 ⟨rfl, hb2⟩
      obtain ⟨hc2, hf2⟩ := bcell hb2
      have hz2 : w.heap.size + 1 + 1 < w2.heap.size := by have := hb2.size; omega
      have q0 : w2.cell? ⟨w.heap.size, 0, none⟩ = some (.int .i64 x) := by go_simp
      have q1 : w2.cell? ⟨w.heap.size, 1, none⟩ = some (.int .i64 y) := by go_simp
      have q2 : w2.cell? ⟨w.heap.size, 2, none⟩ = some (.int .i64 d) := by go_simp
      have q3 : w2.cell? ⟨w.heap.size, 3, none⟩ = some (.int .i64 e) := by go_simp
      have p0 : w2.cell? ⟨w.heap.size + 1, 0, none⟩ = some (.int .i64 x') := by go_simp
      have p1 : w2.cell? ⟨w.heap.size + 1, 1, none⟩ = some (.int .i64 y') := by go_simp
      have p2 : w2.cell? ⟨w.heap.size + 1, 2, none⟩ = some (.int .i64 d') := by go_simp
      have p3 : w2.cell? ⟨w.heap.size + 1, 3, none⟩ = some (.int .i64 e') := by go_simp
      have t0 : w2.cell? ⟨w.heap.size + 1 + 1, 0, none⟩ = some (.int .i64 0) := by go_simp
      have t1 : w2.cell? ⟨w.heap.size + 1 + 1, 1, none⟩ = some (.int .i64 0) := by go_simp
      have t2 : w2.cell? ⟨w.heap.size + 1 + 1, 2, none⟩ = some (.int .i64 0) := by go_simp
      have t3 : w2.cell? ⟨w.heap.size + 1 + 1, 3, none⟩ = some (.int .i64 0) := by go_simp
      have z0 : ∀ i, w2.frozen? ⟨w.heap.size + 1 + 1, i, none⟩ = false := fun i => by go_simp
      have HB := Hid.mk' (bel_next (bel_next (bel_three w _ _ _) hb1) hb2)
      clear hc1 hf1 hc2 hf2 hb1 hb2
      go_wp2_with fail
      have hS0 : S8 w2 w.heap.size x y d e x' y' d' e' := ⟨q0, q1, q2, q3, p0, p1, p2, p3⟩
      go_region_held3 (fun u => u.cell? ⟨w.heap.size, 0, none⟩ = some (.int .i64 x) ∧ u.cell? ⟨w.heap.size, 1, none⟩ = some (.int .i64 y) ∧ u.cell? ⟨w.heap.size, 2, none⟩ = some (.int .i64 d) ∧ u.cell? ⟨w.heap.size, 3, none⟩ = some (.int .i64 e) ∧ u.cell? ⟨w.heap.size + 1, 0, none⟩ = some (.int .i64 x') ∧ u.cell? ⟨w.heap.size + 1, 1, none⟩ = some (.int .i64 y') ∧ u.cell? ⟨w.heap.size + 1, 2, none⟩ = some (.int .i64 d') ∧ u.cell? ⟨w.heap.size + 1, 3, none⟩ = some (.int .i64 e')) (first | exact s8_drew hS0 | exact s8_set (by assumption) (by omega)) (first | (go_at_call 173; refine (maxS _ _ _).mono ?_; rintro r w7 ⟨rfl, hw7⟩; obtain rfl := hw7.symm; clear hw7))
      go_wp2
      refine bodyPost_ret (v := .agg #[.int .i64 (mx x x'), .int .i64 (mx y y'), .int .i64 (mx d d'), .int .i64 (mx e e')]) (by simp [results, Tryz.results159, go_sem, *]) rfl ⟨rfl, ?_⟩
      exact bel_set4 HB.out.drew (by omega) _ _ _ _
set_option maxHeartbeats 4000000 in
theorem monBothI (x y d e x' y' d' e' : Int) (w : World) :
    Calls Tryz.prog 152 #[.agg #[.int .i64 x, .int .i64 y, .int .i64 d, .int .i64 e], .agg #[.int .i64 x', .int .i64 y', .int .i64 d', .int .i64 e']] w fun r w' => r = .returned (.agg #[.int .i64 (M.both ⟨x, y, d, e⟩ ⟨x', y', d', e'⟩).x, .int .i64 (M.both ⟨x, y, d, e⟩ ⟨x', y', d', e'⟩).y, .int .i64 (M.both ⟨x, y, d, e⟩ ⟨x', y', d', e'⟩).d, .int .i64 (M.both ⟨x, y, d, e⟩ ⟨x', y', d', e'⟩).e]) ∧ Below w.heap.size w w' := by
  cases ha : M.ok ⟨x, y, d, e⟩
  · have r1 : M.both ⟨x, y, d, e⟩ ⟨x', y', d', e'⟩ = M.zero := by simp [M.both, ha]
    rw [r1]
    simp only [M.zero]
    clear r1
    go_enter Tryz.func152, Tryz.ntmps152
    go_wp2_with fail
    refine (monOkI_of ha _).mono ?_
    rintro r w1 ⟨rfl, hb1⟩
    obtain ⟨hc1, hf1⟩ := bcell hb1
    have hz1 : w.heap.size + 1 + 1 < w1.heap.size := by have := hb1.size; simp at this; omega
    go_wp2
    refine bodyPost_ret (v := .agg #[.int .i64 0, .int .i64 0, .int .i64 0, .int .i64 0]) (by simp [results, Tryz.results152, go_sem, *]) rfl ⟨rfl, ?_⟩
    exact bel_set4 (bel_next (bel_three w _ _ _) hb1) (by omega) _ _ _ _
  · cases hb : M.ok ⟨x', y', d', e'⟩
    · have r1 : M.both ⟨x, y, d, e⟩ ⟨x', y', d', e'⟩ = M.zero := by simp [M.both, hb]
      rw [r1]
      simp only [M.zero]
      clear r1
      go_enter Tryz.func152, Tryz.ntmps152
      go_wp2_with fail
      refine (monOkI_of ha _).mono ?_
      rintro r w1 ⟨rfl, hb1⟩
      obtain ⟨hc1, hf1⟩ := bcell hb1
      have hz1 : w.heap.size + 1 + 1 < w1.heap.size := by have := hb1.size; simp at this; omega
      go_wp2_with fail
      refine (monOkI_of hb _).mono ?_
      rintro r w2 ⟨rfl, hb2⟩
      obtain ⟨hc2, hf2⟩ := bcell hb2
      have hz2 : w.heap.size + 1 + 1 < w2.heap.size := by have := hb2.size; omega
      go_wp2
      refine bodyPost_ret (v := .agg #[.int .i64 0, .int .i64 0, .int .i64 0, .int .i64 0]) (by simp [results, Tryz.results152, go_sem, *]) rfl ⟨rfl, ?_⟩
      exact bel_set4 (bel_next (bel_next (bel_three w _ _ _) hb1) hb2) (by omega) _ _ _ _
    · have r1 : M.both ⟨x, y, d, e⟩ ⟨x', y', d', e'⟩ = ⟨mx x x', mx y y', mx d d', mx e e'⟩ := by simp [M.both, ha, hb]
      rw [r1]
      clear r1
      go_enter Tryz.func152, Tryz.ntmps152
      go_wp2_with fail
      refine (monOkI_of ha _).mono ?_
      rintro r w1 ⟨rfl, hb1⟩
      obtain ⟨hc1, hf1⟩ := bcell hb1
      have hz1 : w.heap.size + 1 + 1 < w1.heap.size := by have := hb1.size; simp at this; omega
      have hz0 : w.heap.size + 1 < w1.heap.size := by omega
      have hzz : w.heap.size < w1.heap.size := by omega
      go_wp2_with fail
      refine (monOkI_of hb _).mono ?_
      rintro r w2 ⟨rfl, hb2⟩
      obtain ⟨hc2, hf2⟩ := bcell hb2
      have hz2 : w.heap.size + 1 + 1 < w2.heap.size := by have := hb2.size; omega
      have q0 : w2.cell? ⟨w.heap.size, 0, none⟩ = some (.int .i64 x) := by go_simp
      have q1 : w2.cell? ⟨w.heap.size, 1, none⟩ = some (.int .i64 y) := by go_simp
      have q2 : w2.cell? ⟨w.heap.size, 2, none⟩ = some (.int .i64 d) := by go_simp
      have q3 : w2.cell? ⟨w.heap.size, 3, none⟩ = some (.int .i64 e) := by go_simp
      have p0 : w2.cell? ⟨w.heap.size + 1, 0, none⟩ = some (.int .i64 x') := by go_simp
      have p1 : w2.cell? ⟨w.heap.size + 1, 1, none⟩ = some (.int .i64 y') := by go_simp
      have p2 : w2.cell? ⟨w.heap.size + 1, 2, none⟩ = some (.int .i64 d') := by go_simp
      have p3 : w2.cell? ⟨w.heap.size + 1, 3, none⟩ = some (.int .i64 e') := by go_simp
      have t0 : w2.cell? ⟨w.heap.size + 1 + 1, 0, none⟩ = some (.int .i64 0) := by go_simp
      have t1 : w2.cell? ⟨w.heap.size + 1 + 1, 1, none⟩ = some (.int .i64 0) := by go_simp
      have t2 : w2.cell? ⟨w.heap.size + 1 + 1, 2, none⟩ = some (.int .i64 0) := by go_simp
      have t3 : w2.cell? ⟨w.heap.size + 1 + 1, 3, none⟩ = some (.int .i64 0) := by go_simp
      have z0 : ∀ i, w2.frozen? ⟨w.heap.size + 1 + 1, i, none⟩ = false := fun i => by go_simp
      have HB := Hid.mk' (bel_next (bel_next (bel_three w _ _ _) hb1) hb2)
      clear hc1 hf1 hc2 hf2 hb1 hb2
      go_wp2
      all_goals
        refine bodyPost_ret (v := .agg #[.int .i64 (mx x x'), .int .i64 (mx y y'), .int .i64 (mx d d'), .int .i64 (mx e e')]) (by simp [results, Tryz.results152, go_sem, *]; (repeat' apply And.intro) <;> (unfold mx; split <;> omega)) rfl ⟨rfl, ?_⟩
        exact bel_set4 HB.out (by omega) _ _ _ _
end Go.Proofs.YtdidlcjhodejjaaGreat
namespace Go.Proofs.YtdidlcjhodejjaaGreat
open Go.RowKit Go.Deep Go.Joins
set_option linter.unusedVariables false

/-- a slice of slices of terms that can be read. -/
def RdS (w : World) (a : Option Addr) (n cap : Nat) (ad : Nat → Option Addr) (ln cp : Nat → Nat) (f : Nat → Nat → T) : Prop :=
  n ≤ cap ∧ n * 40 ≤ 140737488351232 ∧ (n = 0 ∨ ∃ b off, a = some ⟨b, off, none⟩ ∧ b < w.heap.size ∧ ∀ i, i < n → w.cell? ⟨b, off + i, none⟩ = some (.slice (ad i) (ln i) (cp i))) ∧ ∀ i, i < n → Rd w (ad i) (ln i) (cp i) (f i)
theorem RdS.below {w w' : World} {a : Option Addr} {n cap : Nat} {ad : Nat → Option Addr} {ln cp : Nat → Nat} {f : Nat → Nat → T} (h : RdS w a n cap ad ln cp f) (hb : Below w.heap.size w w') : RdS w' a n cap ad ln cp f := by
  refine ⟨h.1, h.2.1, ?_, fun i hi => (h.2.2.2 i hi).below hb⟩
  rcases h.2.2.1 with h0 | ⟨b, off, he, hlt, hc⟩
  · exact .inl h0
  · exact .inr ⟨b, off, he, Nat.lt_of_lt_of_le hlt hb.size, fun i hi => (hb.cell (p := ⟨b, off + i, none⟩) hlt).trans (hc i hi)⟩
set_option maxHeartbeats 4000000 in
theorem szLists (a : Option Addr) (n cap : Nat) (ad : Nat → Option Addr) (ln cp : Nat → Nat) (l : Int) (w : World) (hn : (n : Int) ≤ 9223372036854775807) (hl : 0 ≤ l) (hl' : l ≤ 1048576) (h3 : n = 0 ∨ ∃ b off, a = some ⟨b, off, none⟩ ∧ b < w.heap.size ∧ ∀ i, i < n → w.cell? ⟨b, off + i, none⟩ = some (.slice (ad i) (ln i) (cp i))) (hln : ∀ i, i < n → (ln i : Int) ≤ 9223372036854775807) :
    Calls Tryz.prog 9 #[.slice a n cap, .int .i64 l] w fun r w' => ∃ z : Int, r = .returned (.int .i64 z) ∧ w' = w ∧ z ≤ l ∧ (0 ≤ z → (n : Int) ≤ l ∧ ∀ i, i < n → (ln i : Int) ≤ l) := by
  by_cases hneg : l - n < 0
  · go_enter Tryz.func9, Tryz.ntmps9
    go_wp2
    go_ret
    exact ⟨-1, rfl, rfl, by omega, fun h => by omega⟩
  · go_enter Tryz.func9, Tryz.ntmps9
    go_wp2
    go_loopw [1, 5] (fun lv iv wr => ∃ (i : Nat) (z : Int), i ≤ n ∧ iv = .int .i64 (i : Int) ∧ lv = .int .i64 z ∧ 0 ≤ z ∧ z ≤ l ∧ (∀ j, j < i → (ln j : Int) ≤ l) ∧ wr = w) (fun _ v _ => n - (intOf v).toNat)
    case atStart => exact ⟨0, l - n, Nat.zero_le _, rfl, rfl, by omega, by omega, fun j hj => by omega, rfl⟩
    case round =>
      obtain ⟨i, z, hi, rfl, rfl, z0, z1, hj, rfl⟩ := hrel
      have HJ := Hid.mk' hj
      clear hj
      by_cases hlt : i < n
      · rcases h3 with h0 | ⟨b, off, rfl, hblt, hcl⟩
        · omega
        have hil : (i : Int) < (n : Int) := by omega
        have hc := hcl i hlt
        have hli := hln i hlt
        clear hcl hln
        go_wp2_with fail
        refine (szTerms _ _ _ _ _ hli z0 (by omega)).mono ?_
        by_cases hz : z - ln i < 0
        · rw [if_pos hz]
          rintro e w' ⟨rfl, rfl⟩
          go_wp2
          go_ret
          exact ⟨-1, rfl, rfl, by omega, fun h => by omega⟩
        · rw [if_neg hz]
          obtain ⟨y, hy⟩ : ∃ y, z - (ln i : Int) = y := ⟨_, rfl⟩
          rw [hy]
          rintro e w' ⟨rfl, rfl⟩
          have hy0 : ¬ y < 0 := by omega
          go_wp2
          go_roundw
          case rel => exact ⟨i + 1, y, by omega, by go_num, rfl, by omega, by omega, fun j hj => by
            by_cases e : j = i
            · rw [e]; omega
            · exact HJ.out j (by omega), by first | trivial | rfl⟩
          case measure => simp [intOf]; omega
      · have hnl : ¬ (i : Int) < (n : Int) := by omega
        have hie : i = n := by omega
        subst hie
        go_wp2
        go_ret
        exact ⟨z, rfl, rfl, z1, fun _ => ⟨by omega, HJ.out⟩⟩
theorem infoS : (Tryz.prog.info? 45).map (fun i => (i.zero, i.size, i.bytes)) = some (some (.slice none 0 0), 1, 24) := by kernel_rfl
theorem make_lists {ops : Array Oper} {rest : List Oper} {o : Oper} {a : Act} {Q : Exit → Act → World → Prop} (w : World)
    (hg : o.guard = none) (l c : Operand) (hop : o.op = Op.makeSlice 24 l c)
    (n : Nat) (hl : a.eval l = .int .i64 (n : Int)) (hc : a.eval c = .int .i64 (n : Int)) (hbytes : n * 40 ≤ 140737488351232)
    (hK : (w.alloc (.cells (madeCells #[.slice none 0 0] n) 45)).rowIs w.heap.size 45 n (fun _ => .slice none 0 0) → wpList Tryz.prog ops Q rest (a.put o.dst (.slice (some ⟨w.heap.size, 0, none⟩) n n)) (w.alloc (.cells (madeCells #[.slice none 0 0] n) 45))) :
    wpList Tryz.prog ops Q (o :: rest) a w := by
  obtain ⟨i, hi, hzz⟩ := Option.map_eq_some_iff.1 infoS
  simp only [Prod.mk.injEq] at hzz
  obtain ⟨hz, hs, hb⟩ := hzz
  refine wpList_plain hg fun K hK' => ?_
  have hr := run_make (P := Tryz.prog) w 24 45 i _ Tryz.underlying24 hi hz .i64 .i64 (n : Int) (n : Int) (by omega) (Int.le_refl _) (by rw [hb]; omega) (by omega)
  simp only [Int.toNat_natCast, hs, Value.cells, Nat.mul_one] at hr
  unfold Oper.wp
  simp [execOp, hop, hl, hc, hr, Result.andThen]
  refine hK' _ _ (hK ?_)
  refine ⟨_, Go.Deep.blk_alloc_new _ _, size_madeCells _ _, fun j hj => ?_⟩
  simp [madeCells, hj, Nat.mod_one]
/-- the first k slices stand, the rest are nil. -/
def partS (B ln : Nat → Nat) (k j : Nat) : Value := if j < k then .slice (some ⟨B j, 0, none⟩) (ln j) (ln j) else .slice none 0 0
theorem partS_next {w : World} {g n k : Nat} {B ln : Nat → Nat} {v : Nat} (h : w.rowIs g 45 n (partS B ln k)) :
    (w.setCell ⟨g, k, none⟩ (.slice (some ⟨v, 0, none⟩) (ln k) (ln k))).rowIs g 45 n (partS (fun j => if j = k then v else B j) ln (k + 1)) := by
  refine (h.set _ _).congr fun j hj => ?_
  by_cases e : j = k
  · subst e
    simp [partS]
  · unfold partS
    by_cases hl : j < k
    · rw [if_pos (show j < k + 1 by omega)]
      simp [e, hl]
    · rw [if_neg (show ¬ j < k + 1 by omega)]
      simp [e, hl]
set_option maxHeartbeats 4000000 in
theorem toLists (w : World) (a : Option Addr) (n cap : Nat) (ad : Nat → Option Addr) (ln cp : Nat → Nat) (f : Nat → Nat → T) (h : RdS w a n cap ad ln cp f) :
    Calls Tryz.prog 11 #[.slice a n cap] w fun r w' => ∃ B : Nat → Nat, r = .returned (.slice (some ⟨w.heap.size, 0, none⟩) n n) ∧ Below w.heap.size w w' ∧ w'.rowIs w.heap.size 45 n (partS B ln n) ∧ ∀ i, i < n → w.heap.size < B i ∧ Own w' (B i) (ln i) (f i) := by
  have hn : (n : Int) ≤ 140737488351232 := by have := h.2.1; omega
  have h2 := h.2.1
  have HH := Hid.mk' h
  clear h
  go_enter Tryz.func11, Tryz.ntmps11
  go_wp2_with (at_make; refine make_lists _ rfl _ _ rfl n rfl rfl (by omega) ?_; intro hrow)
  go_loopw [4] (fun i wr => ∃ (k : Nat) (B : Nat → Nat), k ≤ n ∧ i = .int .i64 k ∧ Below w.heap.size w wr ∧ wr.rowIs w.heap.size 45 n (partS B ln k) ∧ ∀ i, i < k → w.heap.size < B i ∧ Own wr (B i) (ln i) (f i)) (fun i _ => n - (intOf i).toNat)
  case atStart => exact ⟨0, fun _ => 0, Nat.zero_le _, rfl, (Below.refl _ _).alloc (Nat.le_refl _) _, hrow.congr fun j _ => by simp [partS], fun i hi => by omega⟩
  case round =>
    obtain ⟨k, B, hk, rfl, hB, hR, hO⟩ := hrel
    by_cases hlt : k < n
    · rcases HH.out.2.2.1 with h0 | ⟨b, off, rfl, hblt, hcl⟩
      · omega
      have hkn : (k : Int) < (n : Int) := by omega
      have g0 : wr.cell? ⟨b, off + k, none⟩ = some (.slice (ad k) (ln k) (cp k)) := (hB.cell (p := ⟨b, off + k, none⟩) hblt).trans (hcl k hlt)
      have HR := Hid.mk' hR
      have HO := Hid.mk' hO
      have HB := Hid.mk' hB
      have HK := Hid.mk' ((HH.out.2.2.2 k hlt).below hB)
      clear hR hcl hO
      go_wp2_with fail
      refine (toTerms _ _ _ _ (f k) HK.out).mono ?_
      rintro r w1 ⟨rfl, hb, ho⟩
      have hR1 := HR.out.of_block (hb.block w.heap.size (HR.out.lt))
      have hB1 := HB.out.trans (hb.mono HB.out.size)
      have hsz : w.heap.size < wr.heap.size := HR.out.lt
      have q0 := hR1.cell (i := k) hlt
      have fz := fun i => hR1.frozen i
      obtain ⟨V, hV⟩ : ∃ V, wr.heap.size = V := ⟨_, rfl⟩
      rw [hV] at ho ⊢
      have HN := Hid.mk' (partS_next (v := V) hR1)
      have HO2 : Hid (∀ i, i < k + 1 → w.heap.size < (if i = k then V else B i) ∧ Own w1 (if i = k then V else B i) (ln i) (f i)) := fun i hi => by
        by_cases e : i = k
        · rw [if_pos e, e]
          exact ⟨by omega, ho⟩
        · rw [if_neg e]
          have := HO.out i (by omega)
          exact ⟨this.1, this.2.below hb this.2.lt⟩
      have HB1 := Hid.mk' hB1
      clear hR1 HR hb ho HO hB1 hB
      go_wp2
      go_roundw
      case rel =>
        refine ⟨k + 1, _, by omega, by go_num, HB1.out.setCell (Nat.le_refl _) _, HN.out, fun i hi => ?_⟩
        have := HO2.out i hi
        refine ⟨this.1, this.2.of_block ?_⟩
        exact Below.heap_setCell _ _ _ _ (Nat.ne_of_gt this.1)
      case measure => simp [intOf]; omega
    · have hkn : k = n := by omega
      subst hkn
      have HR := Hid.mk' hR
      have HO := Hid.mk' hO
      clear hR hO
      go_wp2
      go_ret
      exact ⟨B, rfl, hB, HR.out, HO.out⟩
/-- what was copied can be read. -/
theorem lists_rd {w : World} {g n : Nat} {B ln : Nat → Nat} {f : Nat → Nat → T} (hR : w.rowIs g 45 n (partS B ln n)) (hO : ∀ i, i < n → Own w (B i) (ln i) (f i)) (hn : n * 40 ≤ 140737488351232) (hl : ∀ i, i < n → ln i * 40 ≤ 140737488351232) : RdS w (some ⟨g, 0, none⟩) n n (fun i => some ⟨B i, 0, none⟩) ln ln f :=
  ⟨Nat.le_refl _, hn, .inr ⟨g, 0, rfl, hR.lt, fun i hi => by
    have := hR.cell (i := i) hi
    rw [Nat.zero_add, this]
    unfold partS
    rw [if_pos hi]⟩, fun i hi => (hO i hi).rd (hl i hi)⟩
end Go.Proofs.YtdidlcjhodejjaaGreat
