/-
  Factors and slopes of a product add up.
-/
import Derived.Test.YtlndccbgbclnhaaRepT
import Derived.Test.YtlndccbgbclnhaaAlgLaw
namespace Go.Proofs.Ytlndccbgbclnhaa
open Go.RowKit
set_option linter.unusedVariables false

theorem dgt16 {a b c d : Int} (hb : 0 ≤ b ∧ b ≤ 15) (hd : 0 ≤ d ∧ d ≤ 15) (h : a * 16 + b = c * 16 + d) : a = c ∧ b = d := by omega
theorem dgt65 {a b c d : Int} (hb : 0 ≤ b ∧ b ≤ 65535) (hd : 0 ≤ d ∧ d ≤ 65535) (h : a * 65536 + b = c * 65536 + d) : b = d := by omega
theorem dgt65_le {a b c d : Int} (hb : 0 ≤ b ∧ b ≤ 65535) (hd : 0 ≤ d ∧ d ≤ 65535) (h : a * 65536 + b ≤ c * 65536 + d) : a ≤ c := by omega
theorem rkL_bdD {a : M} (ha : a.ok = true) : 0 ≤ rkL a ∧ rkL a ≤ 65535 := by
  obtain ⟨x1, x2, y1, y2, d1, d2, e1, e2⟩ := M.ok_iff.1 ha
  unfold rkL
  omega
theorem rkL_injD {a b : M} (ha : a.ok = true) (hb : b.ok = true) (h : rkL a = rkL b) : a = b := by
  obtain ⟨x1, x2, y1, y2, d1, d2, e1, e2⟩ := M.ok_iff.1 ha
  obtain ⟨x3, x4, y3, y4, d3, d4, e3, e4⟩ := M.ok_iff.1 hb
  unfold rkL at h
  have k1 := dgt16 ⟨y1, y2⟩ ⟨y3, y4⟩ h
  have k2 := dgt16 ⟨x1, x2⟩ ⟨x3, x4⟩ k1.1
  have k3 := dgt16 ⟨e1, e2⟩ ⟨e3, e4⟩ k2.1
  have q1 := k1.2
  have q2 := k2.2
  have q3 := k3.2
  have q4 := k3.1
  revert q1 q2 q3 q4
  cases a; cases b
  intro q1 q2 q3 q4
  simp only at q1 q2 q3 q4
  rw [q1, q2, q3, q4]
/-- what is counted, and no more by taking away. -/
def Cnt (q : M → Int) : Prop := ∀ (a b : M) (i k : Nat), q ⟨a.x + b.x - i, a.y + b.y - k, a.d + b.d - i, a.e + b.e - k⟩ ≤ q a + q b ∧ q (a.sum b) = q a + q b
theorem slp_cnt : Cnt slp := fun a b i k => by simp only [slp, M.sum]; omega
theorem dgr_cnt : Cnt dgr := fun a b i k => by simp only [dgr, M.sum]; omega
def wq (q : M → Int) (m : M) : Int := q m * 65536 + rkL m
theorem wq_wt {q : M → Int} (h : Cnt q) : Wt (wq q) := fun a b i k => by
  have h1 := (h a b i k)
  have r1 : rkL ⟨a.x + b.x - i, a.y + b.y - k, a.d + b.d - i, a.e + b.e - k⟩ ≤ rkL a + rkL b - i - k := by unfold rkL; simp only; omega
  have r2 : rkL (a.sum b) = rkL a + rkL b := by unfold rkL M.sum; simp only; omega
  unfold wq
  rw [h1.2, r2]
  omega
theorem wq_inj {q : M → Int} (a b : M) (ha : a.ok = true) (hb : b.ok = true) (h : wq q a = wq q b) : a = b := rkL_injD ha hb (dgt65 (rkL_bdD ha) (rkL_bdD hb) h)
theorem list_max {α : Type} (f : α → Int) : ∀ L : List α, L ≠ [] → ∃ t ∈ L, ∀ s ∈ L, f s ≤ f t
  | [], h => absurd rfl h
  | [t], _ => ⟨t, List.mem_singleton.2 rfl, fun s hs => by rw [List.mem_singleton.1 hs]; exact Int.le_refl _⟩
  | t :: s :: r, _ => by
    obtain ⟨m, hm, hl⟩ := list_max f (s :: r) (by simp)
    by_cases h : f m ≤ f t
    · exact ⟨t, List.mem_cons_self .., fun x hx => by
        rcases List.mem_cons.1 hx with rfl | hx
        · exact Int.le_refl _
        · exact Int.le_trans (hl x hx) h⟩
    · exact ⟨m, List.mem_cons_of_mem _ hm, fun x hx => by
        rcases List.mem_cons.1 hx with rfl | hx
        · omega
        · exact hl x hx⟩
theorem mo_top {q : M → Int} (hq : ∀ m : M, m.ok = true → 0 ≤ q m) {L : List T} (hL : okL L = true) {t0 : T} (h0 : t0 ∈ L) (hm : ∀ t ∈ L, q t.m ≤ q t0.m) : moL q L = q t0.m := by
  have h1 := moL_ge (q := q) hL h0
  have h2 := hq _ ((okL_falls hL).2.2 t0 h0).1
  rcases moL_at (q := q) hL with h | ⟨t, ht, h⟩
  · omega
  · have := hm t ht; omega
theorem mo_prod {q : M → Int} (hc : Cnt q) (hq : ∀ m : M, m.ok = true → 0 ≤ q m) {A B P : List T} (h : wmV A B = (P, true)) (hA : A ≠ []) (hB : B ≠ []) : P ≠ [] ∧ moL q P = moL q A + moL q B := by
  obtain ⟨oA, oB⟩ := wm_args h
  have fA := (okL_falls oA).2
  have fB := (okL_falls oB).2
  have fP := wm_falls h
  obtain ⟨a0, ha0, ha⟩ := list_max (fun t : T => wq q t.m) A hA
  obtain ⟨b0, hb0, hb⟩ := list_max (fun t : T => wq q t.m) B hB
  have hp := lead_prod (wq_wt hc) wq_inj h ha0 hb0 ha hb
  have hs := (wm_lin h).2 a0 ha0 b0 hb0
  have hne : P ≠ [] := fun e => by
    rw [e] at hp
    cases hp.1
  refine ⟨hne, ?_⟩
  have eA := mo_top hq oA ha0 (fun t ht => dgt65_le (rkL_bdD (fA.2 t ht).1) (rkL_bdD (fA.2 a0 ha0).1) (ha t ht))
  have eB := mo_top hq oB hb0 (fun t ht => dgt65_le (rkL_bdD (fB.2 t ht).1) (rkL_bdD (fB.2 b0 hb0).1) (hb t ht))
  have eP := mo_top hq (wm_ok h) hp.1 (fun t ht => dgt65_le (rkL_bdD (fP.2 t ht).1) (rkL_bdD hs) (hp.2 t ht))
  rw [eP, eA, eB]
  exact (hc a0.m b0.m 0 0).2
theorem slp_nn (m : M) (h : m.ok = true) : 0 ≤ slp m := by
  obtain ⟨x1, x2, y1, y2, d1, d2, e1, e2⟩ := M.ok_iff.1 h
  unfold slp; omega
theorem dgr_nn (m : M) (h : m.ok = true) : 0 ≤ dgr m := by
  obtain ⟨x1, x2, y1, y2, d1, d2, e1, e2⟩ := M.ok_iff.1 h
  unfold dgr; omega
theorem mo_bd {q : M → Int} (hq : ∀ m : M, m.ok = true → q m ≤ 60) {L : List T} (hL : okL L = true) : -1 ≤ moL q L ∧ moL q L ≤ 60 := by
  refine ⟨moL_low hL, ?_⟩
  rcases moL_at (q := q) hL with h | ⟨t, ht, h⟩
  · omega
  · rw [h]; exact hq _ ((okL_falls hL).2.2 t ht).1
theorem slp_hi (m : M) (h : m.ok = true) : slp m ≤ 60 := by
  obtain ⟨x1, x2, y1, y2, d1, d2, e1, e2⟩ := M.ok_iff.1 h
  unfold slp; omega
theorem dgr_hi (m : M) (h : m.ok = true) : dgr m ≤ 60 := by
  obtain ⟨x1, x2, y1, y2, d1, d2, e1, e2⟩ := M.ok_iff.1 h
  unfold dgr; omega
theorem degS_L2 {w : World} {a : Option Addr} {ca : Nat} {L : List T} (ha : RL w a ca L) : Calls Try.prog 25 #[.slice a L.length ca] w (Val w (.int .i64 (moL dgr L))) := filDegreeS w a L.length ca (lf L) ha
end Go.Proofs.Ytlndccbgbclnhaa
