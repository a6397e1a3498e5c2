/-
  Laws of lists: so many times a sum; the most that is counted in a sum.
  The least monomial that two divide: the model's and the program's function.
  What the laws over monomials lean on: the thing that holds of the program, and monomials in a world that grew.
-/
import Derived.Test.YtddfpjjeoojlmaaGal
import Derived.Test.YtddfpjjeoojlmaaGat
import Derived.Test.YtddfpjjeoojlmaaGah
import Derived.Test.YtddfpjjeoojlmaaGab
import Derived.Deep.RegionHeld3
import Derived.Deep.Light
import Derived.Test.YtddfpjjeoojlmaaGaf
namespace Go.Proofs.Ytddfpjjeoojlmaa
open Go.RowKit
set_option linter.unusedVariables false

theorem em (a : Int) : a % 101 % 101 = a % 101 := by omega
theorem sc_sum {c : Int} {L K : List T} (c1 : 0 ≤ c) (c2 : c ≤ 100) (hL : okL L = true) (hK : okL K = true) (hs : (addL L K).length ≤ 400) : scV c (addL L K) = addL (scV c L) (scV c K) := by
  have f1 := scV_facts c1 c2 hL
  have f2 := scV_facts c1 c2 hK
  have a1 := addL_facts (okL_falls hL).2 (okL_falls hK).2
  have f3 := scV_facts c1 c2 (okL_of hs a1.1)
  have a2 := addL_facts f1.1 f2.1
  refine falls_one f3.1 a2.1 (fun m _ => ?_)
  rw [f3.2.1, a1.2, a2.2, f1.2.1, f2.2.1, Int.mul_emod, em, ← Int.mul_emod, Int.mul_add, Int.add_emod]
theorem sc_twice {c d : Int} {L : List T} (c1 : 0 ≤ c) (c2 : c ≤ 100) (d1 : 0 ≤ d) (d2 : d ≤ 100) (hL : okL L = true) : scV d (scV c L) = scV (fMul c d) L := by
  have f1 := scV_facts c1 c2 hL
  have o1 : okL (scV c L) = true := okL_of (by have := (okL_falls hL).1; omega) f1.1
  have f2 := scV_facts d1 d2 o1
  have f3 := scV_facts (fMul_bd c d).1 (fMul_bd c d).2 hL
  refine falls_one f2.1 f3.1 (fun m _ => ?_)
  rw [f2.2.1, f1.2.1, f3.2.1, fMul_in c1 c2 d1 d2, Int.mul_emod, em, ← Int.mul_emod, Int.mul_emod (c * d % 101), em, ← Int.mul_emod, ← Int.mul_assoc, Int.mul_comm d c]
theorem sc_plus {c d : Int} {L : List T} (c1 : 0 ≤ c) (c2 : c ≤ 100) (d1 : 0 ≤ d) (d2 : d ≤ 100) (hL : okL L = true) : scV (fAdd c d) L = addL (scV c L) (scV d L) := by
  have f1 := scV_facts c1 c2 hL
  have f2 := scV_facts d1 d2 hL
  have a2 := addL_facts f1.1 f2.1
  have hr : 0 ≤ fAdd c d ∧ fAdd c d ≤ 100 := by rw [fAdd_in c1 c2 d1 d2]; omega
  have f3 := scV_facts hr.1 hr.2 hL
  refine falls_one f3.1 a2.1 (fun m _ => ?_)
  rw [f3.2.1, a2.2, f1.2.1, f2.2.1, fAdd_in c1 c2 d1 d2, Int.mul_emod, em, ← Int.mul_emod, Int.add_mul, Int.add_emod]
theorem sc_one {L : List T} (hL : okL L = true) : scV 1 L = L := by
  have f1 := scV_facts (c := 1) (by omega) (by omega) hL
  have hF := (okL_falls hL).2
  refine falls_one f1.1 hF (fun m _ => ?_)
  have := coef_range hF m
  rw [f1.2.1]
  omega
/-! the most that is counted -/
def moL (q : M → Int) (L : List T) : Int := filMost q L.length (lf L)
theorem most_ge (q : M → Int) (f : Nat → T) : ∀ n i, i < n → q (f i).m ≤ mostL q f n
  | 0, i, h => absurd h (Nat.not_lt_zero _)
  | n + 1, i, h => by
    unfold mostL
    by_cases e : i = n
    · rw [e]
      split <;> omega
    · have := most_ge q f n i (by omega)
      split <;> omega
theorem most_at (q : M → Int) (f : Nat → T) : ∀ n, mostL q f n = -1 ∨ ∃ i, i < n ∧ mostL q f n = q (f i).m
  | 0 => .inl rfl
  | n + 1 => by
    unfold mostL
    split
    · exact .inr ⟨n, by omega, rfl⟩
    · rcases most_at q f n with h | ⟨i, hi, h⟩
      · exact .inl h
      · exact .inr ⟨i, by omega, h⟩
theorem most_low (q : M → Int) (f : Nat → T) : ∀ n, -1 ≤ mostL q f n
  | 0 => Int.le_refl _
  | n + 1 => by have := most_low q f n; unfold mostL; split <;> omega
theorem moL_is {q : M → Int} {L : List T} (h : okL L = true) : moL q L = mostL q (lf L) L.length := if_pos h
theorem moL_ge {q : M → Int} {L : List T} (h : okL L = true) {t : T} (ht : t ∈ L) : q t.m ≤ moL q L := by
  rw [moL_is h]
  obtain ⟨i, hi, rfl⟩ := List.mem_iff_getElem.1 ht
  have := most_ge q (lf L) L.length i hi
  rwa [lf_eq hi] at this
theorem moL_at {q : M → Int} {L : List T} (h : okL L = true) : moL q L = -1 ∨ ∃ t ∈ L, moL q L = q t.m := by
  rw [moL_is h]
  rcases most_at q (lf L) L.length with h1 | ⟨i, hi, h1⟩
  · exact .inl h1
  · exact .inr ⟨L[i], List.getElem_mem hi, by rw [h1, lf_eq hi]⟩
theorem moL_low {q : M → Int} {L : List T} (h : okL L = true) : -1 ≤ moL q L := by rw [moL_is h]; exact most_low q (lf L) L.length
theorem coef_ne_mem {m : M} : ∀ {L : List T}, coef L m ≠ 0 → ∃ t ∈ L, t.m = m
  | [], h => absurd rfl h
  | t :: r, h => by
    rw [coef] at h
    split at h
    · rename_i he
      exact ⟨t, List.mem_cons_self .., meqB_iff.1 he⟩
    · obtain ⟨s, hs, e⟩ := coef_ne_mem h
      exact ⟨s, List.mem_cons_of_mem _ hs, e⟩
theorem mem_coef {L : List T} (h : Falls L) {t : T} (ht : t ∈ L) : coef L t.m = t.c ∧ coef L t.m ≠ 0 := by
  have h1 : coef L t.m = t.c := by
    induction L with
    | nil => cases ht
    | cons s r ih =>
      rw [coef]
      rcases List.mem_cons.1 ht with rfl | ht'
      · rw [if_pos (meqB_iff.2 rfl)]
      · have h1 := h.head t ht'
        rw [if_neg (fun e => by rw [meqB_iff.1 e] at h1; omega)]
        exact ih h.tail ht'
  have h2 := h.2 t ht
  exact ⟨h1, by omega⟩
theorem mo_sum_le {q : M → Int} {L K : List T} (hL : okL L = true) (hK : okL K = true) (hs : (addL L K).length ≤ 400) : moL q (addL L K) ≤ max (moL q L) (moL q K) := by
  have fL := (okL_falls hL).2
  have fK := (okL_falls hK).2
  have a1 := addL_facts fL fK
  have l1 := moL_low (q := q) hL
  rcases moL_at (q := q) (okL_of hs a1.1) with h | ⟨t, ht, h⟩
  · omega
  · rw [h]
    have h1 := (mem_coef a1.1 ht).2
    rw [a1.2] at h1
    by_cases h2 : coef L t.m = 0
    · have h3 : coef K t.m ≠ 0 := fun e => h1 (by rw [h2, e]; rfl)
      obtain ⟨s, hs2, e⟩ := coef_ne_mem h3
      have := moL_ge (q := q) hK hs2
      rw [e] at this
      omega
    · obtain ⟨s, hs2, e⟩ := coef_ne_mem h2
      have := moL_ge (q := q) hL hs2
      rw [e] at this
      omega
theorem mo_sum_gt {q : M → Int} {L K : List T} (hL : okL L = true) (hK : okL K = true) (hs : (addL L K).length ≤ 400) (h : moL q K < moL q L) : moL q (addL L K) = moL q L := by
  have fL := (okL_falls hL).2
  have fK := (okL_falls hK).2
  have a1 := addL_facts fL fK
  have hle := mo_sum_le (q := q) hL hK hs
  have l1 := moL_low (q := q) hK
  rcases moL_at (q := q) hL with h1 | ⟨t, ht, h1⟩
  · omega
  · have h2 := (mem_coef fL ht)
    have h3 : coef K t.m = 0 := by
      by_cases hz : coef K t.m = 0
      · exact hz
      · obtain ⟨s, hs2, e⟩ := coef_ne_mem hz
        have := moL_ge (q := q) hK hs2
        rw [e] at this
        omega
    have h4 : coef (addL L K) t.m ≠ 0 := by
      have hr := coef_range fL t.m
      rw [a1.2, h3]
      have := h2.2
      omega
    obtain ⟨s, hs2, e⟩ := coef_ne_mem h4
    have := moL_ge (q := q) (okL_of hs a1.1) hs2
    rw [e] at this
    omega
theorem mo_sum_ne {q : M → Int} {L K : List T} (hL : okL L = true) (hK : okL K = true) (hs : (addL L K).length ≤ 400) (h : moL q L ≠ moL q K) : moL q (addL L K) = max (moL q L) (moL q K) := by
  rcases Int.lt_trichotomy (moL q L) (moL q K) with h1 | h1 | h1
  · have e := addL_comm (okL_falls hL).2 (okL_falls hK).2
    rw [e] at hs ⊢
    rw [mo_sum_gt hK hL hs h1]
    omega
  · exact absurd h1 h
  · rw [mo_sum_gt hL hK hs h1]
    omega
theorem ordI_L {w : World} {a : Option Addr} {ca : Nat} {L : List T} (ha : RL w a ca L) : Calls Try.prog 32 #[.slice a L.length ca] w (Val w (.int .i64 (moL slp L))) := filOrderI w a L.length ca (lf L) ha
theorem degI_L {w : World} {a : Option Addr} {ca : Nat} {L : List T} (ha : RL w a ca L) : Calls Try.prog 34 #[.slice a L.length ca] w (Val w (.int .i64 (moL dgr L))) := filDegreeI w a L.length ca (lf L) ha
end Go.Proofs.Ytddfpjjeoojlmaa
namespace Go.Proofs.Ytddfpjjeoojlmaa
open Go.RowKit
set_option linter.unusedVariables false

def S8 (u : World) (n : Nat) (x0 y0 z0 u0 x1 y1 z1 u1 : Int) : Prop := u.cell? ⟨n, 0, none⟩ = some (.int .i64 x0) ∧ u.cell? ⟨n, 1, none⟩ = some (.int .i64 y0) ∧ u.cell? ⟨n, 2, none⟩ = some (.int .i64 z0) ∧ u.cell? ⟨n, 3, none⟩ = some (.int .i64 u0) ∧ u.cell? ⟨n + 1, 0, none⟩ = some (.int .i64 x1) ∧ u.cell? ⟨n + 1, 1, none⟩ = some (.int .i64 y1) ∧ u.cell? ⟨n + 1, 2, none⟩ = some (.int .i64 z1) ∧ u.cell? ⟨n + 1, 3, none⟩ = some (.int .i64 u1)
theorem S8.mk {u : World} {n : Nat} {x0 y0 z0 u0 x1 y1 z1 u1 : Int} (ha : M4 u n x0 y0 z0 u0) (hb : M4 u (n + 1) x1 y1 z1 u1) : S8 u n x0 y0 z0 u0 x1 y1 z1 u1 :=
  ⟨ha.1, ha.2.1, ha.2.2.1, ha.2.2.2, hb.1, hb.2.1, hb.2.2.1, hb.2.2.2⟩
theorem S8.a {u : World} {n : Nat} {x0 y0 z0 u0 x1 y1 z1 u1 : Int} (h : S8 u n x0 y0 z0 u0 x1 y1 z1 u1) : M4 u n x0 y0 z0 u0 := ⟨h.1, h.2.1, h.2.2.1, h.2.2.2.1⟩
theorem S8.b {u : World} {n : Nat} {x0 y0 z0 u0 x1 y1 z1 u1 : Int} (h : S8 u n x0 y0 z0 u0 x1 y1 z1 u1) : M4 u (n + 1) x1 y1 z1 u1 := ⟨h.2.2.2.2.1, h.2.2.2.2.2.1, h.2.2.2.2.2.2.1, h.2.2.2.2.2.2.2⟩
theorem s8_drew {u : World} {n : Nat} {x0 y0 z0 u0 x1 y1 z1 u1 : Int} (h : S8 u n x0 y0 z0 u0 x1 y1 z1 u1) : S8 u.drew n x0 y0 z0 u0 x1 y1 z1 u1 := .mk h.a.drew' h.b.drew'
theorem m4_far {u : World} {B b : Nat} {v0 v1 v2 v3 : Value} {x y d e : Int} (m : M4 u b x y d e) (h : b ≠ B) : M4 ((((u.setCell ⟨B, 0, none⟩ v0).setCell ⟨B, 1, none⟩ v1).setCell ⟨B, 2, none⟩ v2).setCell ⟨B, 3, none⟩ v3) b x y d e :=
  ⟨(far4 h).trans m.1, (far4 h).trans m.2.1, (far4 h).trans m.2.2.1, (far4 h).trans m.2.2.2⟩
theorem s8_set {u : World} {n B : Nat} {v0 v1 v2 v3 : Value} {x0 y0 z0 u0 x1 y1 z1 u1 : Int} (h : S8 u n x0 y0 z0 u0 x1 y1 z1 u1) (hB : n + 1 < B) : S8 ((((u.setCell ⟨B, 0, none⟩ v0).setCell ⟨B, 1, none⟩ v1).setCell ⟨B, 2, none⟩ v2).setCell ⟨B, 3, none⟩ v3) n x0 y0 z0 u0 x1 y1 z1 u1 :=
  .mk (m4_far h.a (by omega)) (m4_far h.b (by omega))
end Go.Proofs.Ytddfpjjeoojlmaa
namespace Go.Proofs.Ytddfpjjeoojlmaa
open Go.RowKit
set_option linter.unusedVariables false

theorem M4.ext {w : World} {b : Nat} {x y d e : Int} (h : M4 w b x y d e) : (∀ u : Ext w, u.1.cell? ⟨b, 0, none⟩ = some (.int .i64 x)) ∧ (∀ u : Ext w, u.1.cell? ⟨b, 1, none⟩ = some (.int .i64 y)) ∧ (∀ u : Ext w, u.1.cell? ⟨b, 2, none⟩ = some (.int .i64 d)) ∧ (∀ u : Ext w, u.1.cell? ⟨b, 3, none⟩ = some (.int .i64 e)) :=
  ⟨fun u => (u.cell h.lt).trans h.1, fun u => (u.cell h.lt).trans h.2.1, fun u => (u.cell h.lt).trans h.2.2.1, fun u => (u.cell h.lt).trans h.2.2.2⟩
theorem heOneT (w : World) : Calls Try.prog 44 #[] w fun e w' => e = .returned (.slice (some ⟨w.heap.size, 0, none⟩) 1 1) ∧ w' = w.alloc (.cells #[.int .i64 1, .int .i64 0, .int .i64 0, .int .i64 0, .int .i64 0] 35) := by
  go_enter Try.func44, Try.ntmps44
  go_wp2
  go_ret
  exact ⟨rfl, rfl⟩
theorem heOkT (w : World) : Calls Try.prog 14 #[] w fun e w' => e = .returned (.bool true) ∧ Below w.heap.size w w' := by
  have hb0 : Below w.heap.size w (w.alloc (.cells #[.int .i64 1, .int .i64 0, .int .i64 0, .int .i64 0, .int .i64 0] 35)) := (Below.refl _ _).alloc (Nat.le_refl _) _
  have hr : Rd (w.alloc (.cells #[.int .i64 1, .int .i64 0, .int .i64 0, .int .i64 0, .int .i64 0] 35)) (some ⟨w.heap.size, 0, none⟩) 1 1 (fun _ => ⟨1, 0, 0, 0, 0⟩) := by
    refine ⟨Nat.le_refl _, by omega, .inr ⟨w.heap.size, 0, rfl, by simp, fun i hi => ?_⟩⟩
    obtain rfl : i = 0 := by omega
    exact ⟨by rw [World.cell?_alloc_at _ _ _ _ rfl]; rfl, by rw [World.cell?_alloc_at _ _ _ _ rfl]; rfl, by rw [World.cell?_alloc_at _ _ _ _ rfl]; rfl, by rw [World.cell?_alloc_at _ _ _ _ rfl]; rfl, by rw [World.cell?_alloc_at _ _ _ _ rfl]; rfl⟩
  have hp : polOk 1 (fun _ => ⟨1, 0, 0, 0, 0⟩) = true := by
    simp only [polOk, decide_eq_true_eq]
    refine ⟨by omega, fun i hi => ?_⟩
    obtain rfl : i = 0 := by omega
    decide
  go_enter Try.func14, Try.ntmps14
  go_wp2_with fail
  refine (heOneT _).mono ?_
  rintro e w1 ⟨rfl, rfl⟩
  generalize (w.alloc (.cells #[.int .i64 1, .int .i64 0, .int .i64 0, .int .i64 0, .int .i64 0] 35)) = w1 at hb0 hr ⊢
  go_wp2_with fail
  refine (polOkI _ _ _ _ _ hr).mono ?_
  rw [hp]
  rintro e w2 ⟨rfl, b2⟩
  have bz := hb0.trans (b2.mono hb0.size)
  clear hr hp hb0 b2
  go_wp2
  go_ret
  exact ⟨rfl, bz⟩
theorem monDegS_of {x y d e n : Int} (h : M.deg ⟨x, y, d, e⟩ = n) (w : World) :
    Calls Try.prog 61 #[.agg #[.int .i64 x, .int .i64 y, .int .i64 d, .int .i64 e]] w fun r w' => r = .returned (.int .i64 n) ∧ Below w.heap.size w w' := by
  have := monDegS x y d e w
  rw [h] at this; exact this
theorem M.mul_cases (a b : M) : (M.mul a b = (⟨0, 0, 0, 0⟩, false) ∧ M.mul b a = (⟨0, 0, 0, 0⟩, false)) ∨ (a.ok = true ∧ b.ok = true ∧ (M.sum a b).ok = true ∧ M.mul a b = (⟨a.x + b.x, a.y + b.y, a.d + b.d, a.e + b.e⟩, true) ∧ M.mul b a = (⟨a.x + b.x, a.y + b.y, a.d + b.d, a.e + b.e⟩, true)) := by
  have hc : M.sum b a = M.sum a b := by simp [M.sum, Int.add_comm]
  by_cases h : a.ok = true ∧ b.ok = true ∧ (M.sum a b).ok = true
  · refine .inr ⟨h.1, h.2.1, h.2.2, ?_, ?_⟩
    · rw [M.mul, if_pos h]; rfl
    · rw [M.mul, hc, if_pos ⟨h.2.1, h.1, h.2.2⟩]; rfl
  · refine .inl ⟨?_, ?_⟩
    · rw [M.mul, if_neg h]; rfl
    · rw [M.mul, hc, if_neg (fun k => h ⟨k.2.1, k.1, k.2.2⟩)]; rfl
theorem M.deg_bd {m : M} (h : m.ok = true) : m.deg = m.x + m.y + m.d + m.e ∧ 0 ≤ m.deg ∧ m.deg ≤ 60 := by
  have := M.ok_iff.1 h
  rw [M.deg, if_pos h]
  exact ⟨rfl, by omega, by omega⟩
theorem mx_comm (a b : Int) : mx a b = mx b a := by unfold mx; split <;> split <;> omega
theorem M.both_comm (a b : M) : M.both a b = M.both b a := by
  unfold M.both
  by_cases h : a.ok = true ∧ b.ok = true
  · rw [if_pos h, if_pos h.symm, mx_comm a.x, mx_comm a.y, mx_comm a.d, mx_comm a.e]
  · rw [if_neg h, if_neg (fun k => h k.symm)]
theorem M.dvd_mk {a b : M} (ha : a.ok = true) (hb : b.ok = true) (h : a.x ≤ b.x ∧ a.y ≤ b.y ∧ a.d ≤ b.d ∧ a.e ≤ b.e) : a.dvd b = true := by
  simp [M.dvd, ha, hb, h]
theorem mx_bd {a b l h : Int} (ha : l ≤ a ∧ a ≤ h) (hb : l ≤ b ∧ b ≤ h) : l ≤ mx a b ∧ mx a b ≤ h ∧ a ≤ mx a b ∧ b ≤ mx a b := by unfold mx; split <;> omega
theorem mx_le {a b c : Int} (ha : a ≤ c) (hb : b ≤ c) : mx a b ≤ c := by unfold mx; split <;> omega
theorem M.both_facts {a b p : M} (ha : a.ok = true) (hb : b.ok = true) (hp : M.both a b = p) : a.dvd p = true ∧ b.dvd p = true ∧ (∀ c : M, a.dvd c = true → b.dvd c = true → p.dvd c = true) ∧ M.both a a = a := by
  rw [M.both, if_pos ⟨ha, hb⟩] at hp
  subst hp
  have ka := M.ok_iff.1 ha
  have kb := M.ok_iff.1 hb
  have hx := mx_bd (a := a.x) (b := b.x) (l := 0) (h := 15) (by omega) (by omega)
  have hy := mx_bd (a := a.y) (b := b.y) (l := 0) (h := 15) (by omega) (by omega)
  have hd := mx_bd (a := a.d) (b := b.d) (l := 0) (h := 15) (by omega) (by omega)
  have he := mx_bd (a := a.e) (b := b.e) (l := 0) (h := 15) (by omega) (by omega)
  have hok : M.ok ⟨mx a.x b.x, mx a.y b.y, mx a.d b.d, mx a.e b.e⟩ = true := M.ok_iff.2 (by dsimp only; omega)
  refine ⟨M.dvd_mk ha hok (by dsimp only; omega), M.dvd_mk hb hok (by dsimp only; omega), fun c h1 h2 => ?_, ?_⟩
  · have k1 := M.dvd_iff h1
    have k2 := M.dvd_iff h2
    exact M.dvd_mk hok k1.2.1 ⟨mx_le k1.2.2.1 k2.2.2.1, mx_le k1.2.2.2.1 k2.2.2.2.1, mx_le k1.2.2.2.2.1 k2.2.2.2.2.1, mx_le k1.2.2.2.2.2 k2.2.2.2.2.2⟩
  · rw [M.both, if_pos ⟨ha, ha⟩]
    have : ∀ z : Int, mx z z = z := fun z => by unfold mx; split <;> rfl
    simp only [this]
end Go.Proofs.Ytddfpjjeoojlmaa
