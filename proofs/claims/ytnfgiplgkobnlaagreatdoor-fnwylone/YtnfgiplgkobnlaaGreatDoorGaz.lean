/-
  What is true of products: brackets, sums on both sides, how far two are apart.
  The least monomial that two divide: the model's and the program's function.
  What the laws over monomials lean on: the thing that holds of the program, and monomials in a world that grew.
-/
import Derived.Test.YtnfgiplgkobnlaaGreatDoorGay
import Derived.Test.YtnfgiplgkobnlaaGreatDoorGac
import Derived.Test.YtnfgiplgkobnlaaGreatDoorGad
import Derived.Deep.RegionHeld3
import Derived.Deep.Light
import Derived.Test.YtnfgiplgkobnlaaGreatDoorGav
namespace Go.Proofs.YtnfgiplgkobnlaaGreatDoor
open Go.RowKit
set_option linter.unusedVariables false

theorem wm_ok {A B P : List T} (h : wmV A B = (P, true)) : okL P = true := by
  rcases wmV_case A B with h1 | ⟨Q, h1, o⟩
  · rw [h1] at h; simp at h
  · rw [h1] at h
    simp only [Prod.mk.injEq, and_true] at h
    rw [← h]; exact o
theorem wmV_if (A B : List T) : wmV A B = ([], false) ∨ ∃ P, wmV A B = (P, true) := (wmV_case A B).imp id (fun ⟨P, h, _⟩ => ⟨P, h⟩)
theorem addV_if (A B : List T) : addV A B = ([], false) ∨ ∃ P, addV A B = (P, true) := (addV_case A B).imp id (fun ⟨_, _, _, h⟩ => ⟨_, h⟩)
theorem wm_falls {A B P : List T} (h : wmV A B = (P, true)) : Falls P := (okL_falls (wm_ok h)).2
theorem wm_args {A B P : List T} (h : wmV A B = (P, true)) : okL A = true ∧ okL B = true := by
  unfold wmV wylMul at h
  split at h
  · rename_i hh; exact hh
  · simp at h
theorem wm_assoc {A B C X Y U V : List T} (h1 : wmV A B = (X, true)) (h2 : wmV B C = (Y, true)) (h3 : wmV X C = (U, true)) (h4 : wmV A Y = (V, true)) : U = V := by
  refine eq_of_Rp (wm_falls h3) (wm_falls h4) ?_
  rw [Rp_mul _ h3, Rp_mul _ h1, Rp_mul _ h4, Rp_mul _ h2, Lq.mul_assoc]
theorem addV_eq {A B S : List T} (oA : okL A = true) (oB : okL B = true) (oS : okL S = true) (h : Lq.sum (Rp stdG A) (Rp stdG B) = Rp stdG S) : addV A B = (S, true) := by
  have e : addL A B = S := eq_of_Rp (addL_facts (okL_falls oA).2 (okL_falls oB).2).1 (okL_falls oS).2 (by rw [Rp_add _ (okL_falls oA).2 (okL_falls oB).2]; exact h)
  rw [addV_ok oA oB (by rw [e]; exact (okL_falls oS).1), e]
theorem wm_left {A B C S X Y U : List T} (hS : addV B C = (S, true)) (h1 : wmV A B = (X, true)) (h2 : wmV A C = (Y, true)) (h3 : wmV A S = (U, true)) : addV X Y = (U, true) := by
  rcases addV_case B C with h | ⟨oB, oC, hl, h⟩
  · rw [h] at hS; simp at hS
  rw [h] at hS
  simp only [Prod.mk.injEq, and_true] at hS
  refine addV_eq (wm_ok h1) (wm_ok h2) (wm_ok h3) ?_
  rw [Rp_mul _ h1, Rp_mul _ h2, Rp_mul _ h3, ← hS, Rp_add _ (okL_falls oB).2 (okL_falls oC).2, Lq.mul_sum]
theorem wm_right {A B C S X Y U : List T} (hS : addV B C = (S, true)) (h1 : wmV B A = (X, true)) (h2 : wmV C A = (Y, true)) (h3 : wmV S A = (U, true)) : addV X Y = (U, true) := by
  rcases addV_case B C with h | ⟨oB, oC, hl, h⟩
  · rw [h] at hS; simp at hS
  rw [h] at hS
  simp only [Prod.mk.injEq, and_true] at hS
  refine addV_eq (wm_ok h1) (wm_ok h2) (wm_ok h3) ?_
  rw [Rp_mul _ h1, Rp_mul _ h2, Rp_mul _ h3, ← hS, Rp_add _ (okL_falls oB).2 (okL_falls oC).2, Lq.sum_mul]
/-! so many times a product -/
def scT1 (c : Int) (t : T) : T := ⟨c * t.c % 101, t.m⟩
theorem addL_sc {c : Int} (c1 : 1 ≤ c) (c2 : c ≤ 100) {K X : List T} (hK : Falls K) (hX : Falls X) : addL (scL c K) (scL c X) = scL c (addL K X) := by
  have f1 := scL_falls c1 c2 hK
  have f2 := scL_falls c1 c2 hX
  refine eq_of_Rp (addL_facts f1 f2).1 (scL_falls c1 c2 (addL_facts hK hX).1) ?_
  rw [Rp_add _ f1 f2, Rp_sc, Rp_sc, Rp_sc, Rp_add _ hK hX, Lq.sc_sum]
theorem pair_sc {c : Int} (c1 : 1 ≤ c) (c2 : c ≤ 100) {a b : T} {m : M} (h : Two a b m) : Two (scT1 c a) b m ∧ pairL (scT1 c a) b = scL c (pairL a b) := by
  have h2 : Two (scT1 c a) b m := ⟨h.ok1, h.ok2, h.ok3, h.gx, h.gy, h.gd, h.ge, ⟨by show 0 ≤ c * a.c % 101; omega, by show c * a.c % 101 ≤ 100; omega⟩, h.c2⟩
  refine ⟨h2, eq_of_Rp (pairL_facts h2).1 (scL_falls c1 c2 (pairL_facts h).1) ?_⟩
  rw [Rp_pair _ h2, Rp_sc, Rp_pair _ h, Lq.sc_sc]
  congr 1
  show zz (c * a.c % 101) * zz b.c = _
  rw [zz_mod, zz_mul]; grind
theorem rowM_sc {c : Int} (c1 : 1 ≤ c) (c2 : c ≤ 100) {K : List T} {a : T} {f : Nat → T} {lb : Nat} (hK : Falls K) (ha : a.m.ok = true ∧ 0 ≤ a.c ∧ a.c ≤ 100) (hg : Good f lb) : ∀ k, k ≤ lb → rowM (scL c K) (scT1 c a) f k = (rowM K a f k).map (scL c)
  | 0, _ => rfl
  | k + 1, hk => by
    rw [rowM, rowM, rowM_sc c1 c2 hK ha hg k (by omega)]
    cases hr : rowM K a f k with
    | none => rfl
    | some K1 =>
      show stepM (scL c K1) (scT1 c a) (f k) = (stepM K1 a (f k)).map (scL c)
      have hf1 := rowM_falls2 hK ha hg k K1 (by omega) hr
      have h2 := hg k (by omega)
      unfold stepM
      show (if (a.m.sum (f k).m).ok = true ∧ (addL (scL c K1) (pairL (scT1 c a) (f k))).length ≤ 400 then some (addL (scL c K1) (pairL (scT1 c a) (f k))) else none) = _
      by_cases hok : (a.m.sum (f k).m).ok = true
      · have tw : Two a (f k) (a.m.sum (f k).m) := ⟨ha.1, h2.1, hok, rfl, rfl, rfl, rfl, ha.2, h2.2⟩
        rw [(pair_sc c1 c2 tw).2, addL_sc c1 c2 hf1 (pairL_facts tw).1, scL_len]
        by_cases hl : (addL K1 (pairL a (f k))).length ≤ 400
        · rw [if_pos ⟨hok, hl⟩, if_pos ⟨hok, hl⟩]; rfl
        · rw [if_neg (fun h => hl h.2), if_neg (fun h => hl h.2)]; rfl
      · rw [if_neg (fun h => hok h.1), if_neg (fun h => hok h.1)]; rfl
theorem mulM_sc {c : Int} (c1 : 1 ≤ c) (c2 : c ≤ 100) {f f' f2 : Nat → T} {la lb : Nat} (hf : Good f la) (hg : Good f' lb) (he : ∀ i, i < la → f2 i = scT1 c (f i)) : ∀ i, i ≤ la → mulM f2 f' lb i = (mulM f f' lb i).map (scL c)
  | 0, _ => by show some [] = some (scL c []); rw [show scL c [] = [] from by rw [scL_map]; rfl]
  | i + 1, hi => by
    rw [mulM, mulM, mulM_sc c1 c2 hf hg he i (by omega)]
    cases hr : mulM f f' lb i with
    | none => rfl
    | some K1 =>
      show rowM (scL c K1) (f2 i) f' lb = (rowM K1 (f i) f' lb).map (scL c)
      rw [he i (by omega)]
      exact rowM_sc c1 c2 (mulM_falls2 hf hg i K1 (by omega) hr) (hf i (by omega)) hg lb (Nat.le_refl _)
theorem wm_sc {c : Int} (c1 : 1 ≤ c) (c2 : c ≤ 100) {A B P : List T} (h : wmV A B = (P, true)) : wmV (scL c A) B = (scL c P, true) := by
  obtain ⟨oA, oB⟩ := wm_args h
  have oS : okL (scL c A) = true := okL_of (by rw [scL_len]; exact (okL_falls oA).1) (scL_falls c1 c2 (okL_falls oA).2)
  unfold wmV wylMul at h ⊢
  rw [if_pos ⟨oA, oB⟩] at h
  rw [if_pos ⟨oS, oB⟩]
  obtain ⟨l1, g1⟩ := good_ok oA
  obtain ⟨l2, g2⟩ := good_ok oB
  rw [scL_len, mulM_sc c1 c2 g1 g2 (fun i hi => by rw [scL, lf_scT _ _ _ _ hi]; rfl) A.length (Nat.le_refl _)]
  cases hm : mulM (lf A) (lf B) B.length A.length with
  | none => rw [hm] at h; simp [mulO] at h
  | some K =>
    rw [hm] at h
    have : K = P := by simpa [mulO] using h
    rw [this]; rfl
/-! how far two are apart -/
theorem sum_f (A B : Lq) (u : Vq) (n k : Nat) : (Lq.sum A B).f u n k = A.f u n k + B.f u n k := rfl
theorem sc_f (c : Fq) (A : Lq) (u : Vq) (n k : Nat) : (Lq.sc c A).f u n k = c * A.f u n k := rfl
theorem nil_f (u : Vq) (n k : Nat) : Lq.nil.f u n k = 0 := rfl
theorem wmS_L {w : World} {a b : Option Addr} {ca cb : Nat} {L K : List T} (ha : RL w a ca L) (hb : RL w b cb K) : Calls Tryz.prog 16 #[.slice a L.length ca, .slice b K.length cb] w (Two2 w (wmV L K)) :=
  (wylMulS w a b L.length ca K.length cb (lf L) (lf K) ha hb).mono fun _ _ h => two_owns (wylMul_len _ _ _ _) h
end Go.Proofs.YtnfgiplgkobnlaaGreatDoor
namespace Go.Proofs.YtnfgiplgkobnlaaGreatDoor
open Go.RowKit
set_option linter.unusedVariables false

def S8 (u : World) (n : Nat) (x0 y0 z0 u0 x1 y1 z1 u1 : Int) : Prop := u.cell? ⟨n, 0, none⟩ = some (.int .i64 x0) ∧ u.cell? ⟨n, 1, none⟩ = some (.int .i64 y0) ∧ u.cell? ⟨n, 2, none⟩ = some (.int .i64 z0) ∧ u.cell? ⟨n, 3, none⟩ = some (.int .i64 u0) ∧ u.cell? ⟨n + 1, 0, none⟩ = some (.int .i64 x1) ∧ u.cell? ⟨n + 1, 1, none⟩ = some (.int .i64 y1) ∧ u.cell? ⟨n + 1, 2, none⟩ = some (.int .i64 z1) ∧ u.cell? ⟨n + 1, 3, none⟩ = some (.int .i64 u1)
theorem S8.mk {u : World} {n : Nat} {x0 y0 z0 u0 x1 y1 z1 u1 : Int} (ha : M4 u n x0 y0 z0 u0) (hb : M4 u (n + 1) x1 y1 z1 u1) : S8 u n x0 y0 z0 u0 x1 y1 z1 u1 :=
  ⟨ha.1, ha.2.1, ha.2.2.1, ha.2.2.2, hb.1, hb.2.1, hb.2.2.1, hb.2.2.2⟩
theorem S8.a {u : World} {n : Nat} {x0 y0 z0 u0 x1 y1 z1 u1 : Int} (h : S8 u n x0 y0 z0 u0 x1 y1 z1 u1) : M4 u n x0 y0 z0 u0 := ⟨h.1, h.2.1, h.2.2.1, h.2.2.2.1⟩
theorem S8.b {u : World} {n : Nat} {x0 y0 z0 u0 x1 y1 z1 u1 : Int} (h : S8 u n x0 y0 z0 u0 x1 y1 z1 u1) : M4 u (n + 1) x1 y1 z1 u1 := ⟨h.2.2.2.2.1, h.2.2.2.2.2.1, h.2.2.2.2.2.2.1, h.2.2.2.2.2.2.2⟩
theorem s8_drew {u : World} {n : Nat} {x0 y0 z0 u0 x1 y1 z1 u1 : Int} (h : S8 u n x0 y0 z0 u0 x1 y1 z1 u1) : S8 u.drew n x0 y0 z0 u0 x1 y1 z1 u1 := .mk h.a.drew' h.b.drew'
theorem m4_far {u : World} {B b : Nat} {v0 v1 v2 v3 : Value} {x y d e : Int} (m : M4 u b x y d e) (h : b ≠ B) : M4 ((((u.setCell ⟨B, 0, none⟩ v0).setCell ⟨B, 1, none⟩ v1).setCell ⟨B, 2, none⟩ v2).setCell ⟨B, 3, none⟩ v3) b x y d e :=
  ⟨(far4 h).trans m.1, (far4 h).trans m.2.1, (far4 h).trans m.2.2.1, (far4 h).trans m.2.2.2⟩
theorem s8_set {u : World} {n B : Nat} {v0 v1 v2 v3 : Value} {x0 y0 z0 u0 x1 y1 z1 u1 : Int} (h : S8 u n x0 y0 z0 u0 x1 y1 z1 u1) (hB : n + 1 < B) : S8 ((((u.setCell ⟨B, 0, none⟩ v0).setCell ⟨B, 1, none⟩ v1).setCell ⟨B, 2, none⟩ v2).setCell ⟨B, 3, none⟩ v3) n x0 y0 z0 u0 x1 y1 z1 u1 :=
  .mk (m4_far h.a (by omega)) (m4_far h.b (by omega))
end Go.Proofs.YtnfgiplgkobnlaaGreatDoor
namespace Go.Proofs.YtnfgiplgkobnlaaGreatDoor
open Go.RowKit
set_option linter.unusedVariables false

theorem M4.ext {w : World} {b : Nat} {x y d e : Int} (h : M4 w b x y d e) : (∀ u : Ext w, u.1.cell? ⟨b, 0, none⟩ = some (.int .i64 x)) ∧ (∀ u : Ext w, u.1.cell? ⟨b, 1, none⟩ = some (.int .i64 y)) ∧ (∀ u : Ext w, u.1.cell? ⟨b, 2, none⟩ = some (.int .i64 d)) ∧ (∀ u : Ext w, u.1.cell? ⟨b, 3, none⟩ = some (.int .i64 e)) :=
  ⟨fun u => (u.cell h.lt).trans h.1, fun u => (u.cell h.lt).trans h.2.1, fun u => (u.cell h.lt).trans h.2.2.1, fun u => (u.cell h.lt).trans h.2.2.2⟩
theorem heOneT (w : World) : Calls Tryz.prog 13 #[] w fun e w' => e = .returned (.slice (some ⟨w.heap.size, 0, none⟩) 1 1) ∧ w' = w.alloc (.cells #[.int .i64 1, .int .i64 0, .int .i64 0, .int .i64 0, .int .i64 0] 45) := by
  go_enter Tryz.func13, Tryz.ntmps13
  go_wp2
  go_ret
  exact ⟨rfl, rfl⟩
theorem monMulI_of {x y d e x' y' d' e' : Int} {m : M} {b : Bool} (h : M.mul ⟨x, y, d, e⟩ ⟨x', y', d', e'⟩ = (m, b)) (w : World) :
    Calls Tryz.prog 59 #[.agg #[.int .i64 x, .int .i64 y, .int .i64 d, .int .i64 e], .agg #[.int .i64 x', .int .i64 y', .int .i64 d', .int .i64 e']] w fun r w' => r = .returned (.tuple #[.agg #[.int .i64 m.x, .int .i64 m.y, .int .i64 m.d, .int .i64 m.e], .bool b]) ∧ Below w.heap.size w w' := by
  have := monMulI x y d e x' y' d' e' w
  rw [h] at this; exact this
theorem monMulS_of {x y d e x' y' d' e' : Int} {m : M} {b : Bool} (h : M.mul ⟨x, y, d, e⟩ ⟨x', y', d', e'⟩ = (m, b)) (w : World) :
    Calls Tryz.prog 90 #[.agg #[.int .i64 x, .int .i64 y, .int .i64 d, .int .i64 e], .agg #[.int .i64 x', .int .i64 y', .int .i64 d', .int .i64 e']] w fun r w' => r = .returned (.tuple #[.agg #[.int .i64 m.x, .int .i64 m.y, .int .i64 m.d, .int .i64 m.e], .bool b]) ∧ Below w.heap.size w w' := by
  have := monMulS x y d e x' y' d' e' w
  rw [h] at this; exact this
theorem monDegS_of {x y d e n : Int} (h : M.deg ⟨x, y, d, e⟩ = n) (w : World) :
    Calls Tryz.prog 66 #[.agg #[.int .i64 x, .int .i64 y, .int .i64 d, .int .i64 e]] w fun r w' => r = .returned (.int .i64 n) ∧ Below w.heap.size w w' := by
  have := monDegS x y d e w
  rw [h] at this; exact this
theorem M.mul_cases (a b : M) : (M.mul a b = (⟨0, 0, 0, 0⟩, false) ∧ M.mul b a = (⟨0, 0, 0, 0⟩, false)) ∨ (a.ok = true ∧ b.ok = true ∧ (M.sum a b).ok = true ∧ M.mul a b = (⟨a.x + b.x, a.y + b.y, a.d + b.d, a.e + b.e⟩, true) ∧ M.mul b a = (⟨a.x + b.x, a.y + b.y, a.d + b.d, a.e + b.e⟩, true)) := by
  have hc : M.sum b a = M.sum a b := by simp [M.sum, Int.add_comm]
  by_cases h : a.ok = true ∧ b.ok = true ∧ (M.sum a b).ok = true
  · refine .inr ⟨h.1, h.2.1, h.2.2, ?_, ?_⟩
    · rw [M.mul, if_pos h]; rfl
    · rw [M.mul, hc, if_pos ⟨h.2.1, h.1, h.2.2⟩]; rfl
  · refine .inl ⟨?_, ?_⟩
    · rw [M.mul, if_neg h]; rfl
    · rw [M.mul, hc, if_neg (fun k => h ⟨k.2.1, k.1, k.2.2⟩)]; rfl
theorem M.deg_bd {m : M} (h : m.ok = true) : m.deg = m.x + m.y + m.d + m.e ∧ 0 ≤ m.deg ∧ m.deg ≤ 60 := by
  have := M.ok_iff.1 h
  rw [M.deg, if_pos h]
  exact ⟨rfl, by omega, by omega⟩
theorem mx_comm (a b : Int) : mx a b = mx b a := by unfold mx; split <;> split <;> omega
theorem M.both_comm (a b : M) : M.both a b = M.both b a := by
  unfold M.both
  by_cases h : a.ok = true ∧ b.ok = true
  · rw [if_pos h, if_pos h.symm, mx_comm a.x, mx_comm a.y, mx_comm a.d, mx_comm a.e]
  · rw [if_neg h, if_neg (fun k => h k.symm)]
theorem M.dvd_mk {a b : M} (ha : a.ok = true) (hb : b.ok = true) (h : a.x ≤ b.x ∧ a.y ≤ b.y ∧ a.d ≤ b.d ∧ a.e ≤ b.e) : a.dvd b = true := by
  simp [M.dvd, ha, hb, h]
theorem mx_bd {a b l h : Int} (ha : l ≤ a ∧ a ≤ h) (hb : l ≤ b ∧ b ≤ h) : l ≤ mx a b ∧ mx a b ≤ h ∧ a ≤ mx a b ∧ b ≤ mx a b := by unfold mx; split <;> omega
theorem mx_le {a b c : Int} (ha : a ≤ c) (hb : b ≤ c) : mx a b ≤ c := by unfold mx; split <;> omega
theorem M.both_facts {a b p : M} (ha : a.ok = true) (hb : b.ok = true) (hp : M.both a b = p) : a.dvd p = true ∧ b.dvd p = true ∧ (∀ c : M, a.dvd c = true → b.dvd c = true → p.dvd c = true) ∧ M.both a a = a := by
  rw [M.both, if_pos ⟨ha, hb⟩] at hp
  subst hp
  have ka := M.ok_iff.1 ha
  have kb := M.ok_iff.1 hb
  have hx := mx_bd (a := a.x) (b := b.x) (l := 0) (h := 15) (by omega) (by omega)
  have hy := mx_bd (a := a.y) (b := b.y) (l := 0) (h := 15) (by omega) (by omega)
  have hd := mx_bd (a := a.d) (b := b.d) (l := 0) (h := 15) (by omega) (by omega)
  have he := mx_bd (a := a.e) (b := b.e) (l := 0) (h := 15) (by omega) (by omega)
  have hok : M.ok ⟨mx a.x b.x, mx a.y b.y, mx a.d b.d, mx a.e b.e⟩ = true := M.ok_iff.2 (by dsimp only; omega)
  refine ⟨M.dvd_mk ha hok (by dsimp only; omega), M.dvd_mk hb hok (by dsimp only; omega), fun c h1 h2 => ?_, ?_⟩
  · have k1 := M.dvd_iff h1
    have k2 := M.dvd_iff h2
    exact M.dvd_mk hok k1.2.1 ⟨mx_le k1.2.2.1 k2.2.2.1, mx_le k1.2.2.2.1 k2.2.2.2.1, mx_le k1.2.2.2.2.1 k2.2.2.2.2.1, mx_le k1.2.2.2.2.2 k2.2.2.2.2.2⟩
  · rw [M.both, if_pos ⟨ha, ha⟩]
    have : ∀ z : Int, mx z z = z := fun z => by unfold mx; split <;> rfl
    simp only [this]
end Go.Proofs.YtnfgiplgkobnlaaGreatDoor
