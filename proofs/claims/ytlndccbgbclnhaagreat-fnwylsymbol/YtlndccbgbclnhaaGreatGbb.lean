/-
  Tops: the model.
  Laws of lists: so many times a sum; the most that is counted in a sum.
  Factors and slopes of a product add up.
-/
import Derived.Test.YtlndccbgbclnhaaGreatGba
import Derived.Test.YtlndccbgbclnhaaGreatGah
import Derived.Test.YtlndccbgbclnhaaGreatGaq
import Derived.Test.YtlndccbgbclnhaaGreatGaz
namespace Go.Proofs.YtlndccbgbclnhaaGreat
open Go.RowKit
set_option linter.unusedVariables false

theorem mx_if (a b : Int) : mx a b = if a < b then b else a := by unfold mx; split <;> split <;> omega
theorem mostL_succ (q : M → Int) (f : Nat → T) (k : Nat) : mostL q f (k + 1) = mx (mostL q f k) (q (f k).m) := by rw [mx_if]; rfl
theorem ord_deg {a b : M} (h : 0 < M.ord 1 a b) : b.deg ≤ a.deg := by
  unfold M.ord at h
  by_cases he : a.deg = b.deg
  · omega
  · rw [if_pos ⟨rfl, he⟩] at h
    unfold c3 at h
    split at h
    · omega
    · omega
theorem deg_ok {m : M} (h : m.ok = true) : m.deg = dgr m := by simp [M.deg, dgr, h]
theorem most_deg {n : Nat} {f : Nat → T} (hp : polOk n f = true) : ∀ i, i < n → mostL dgr f (i + 1) = dgr (f 0).m ∧ dgr (f i).m ≤ dgr (f 0).m
  | 0, h => by
    have hm := M.ok_iff.1 (polOk_m hp 0 h)
    refine ⟨?_, Int.le_refl _⟩
    show (if (-1 : Int) < dgr (f 0).m then dgr (f 0).m else -1) = _
    rw [if_pos (by unfold dgr; omega)]
  | i + 1, h => by
    obtain ⟨h1, h2⟩ := most_deg hp i (by omega)
    have hm := polOk_m hp
    have ho : okAt f (i + 1) = true := by have hh := hp; simp only [polOk, decide_eq_true_eq] at hh; exact hh.2 (i + 1) h
    simp only [okAt, Bool.and_eq_true, Bool.or_eq_true, decide_eq_true_eq, Nat.add_sub_cancel] at ho
    have h3 := ord_deg (ho.2.resolve_left (by omega))
    rw [deg_ok (hm _ h), deg_ok (hm i (by omega))] at h3
    have h4 : dgr (f (i + 1)).m ≤ dgr (f 0).m := by omega
    refine ⟨?_, h4⟩
    rw [mostL, h1, if_neg (by omega)]
end Go.Proofs.YtlndccbgbclnhaaGreat
namespace Go.Proofs.YtlndccbgbclnhaaGreat
open Go.RowKit
set_option linter.unusedVariables false

theorem em (a : Int) : a % 101 % 101 = a % 101 := by omega
theorem sc_sum {c : Int} {L K : List T} (c1 : 0 ≤ c) (c2 : c ≤ 100) (hL : okL L = true) (hK : okL K = true) (hs : (addL L K).length ≤ 400) : scV c (addL L K) = addL (scV c L) (scV c K) := by
  have f1 := scV_facts c1 c2 hL
  have f2 := scV_facts c1 c2 hK
  have a1 := addL_facts (okL_falls hL).2 (okL_falls hK).2
  have f3 := scV_facts c1 c2 (okL_of hs a1.1)
  have a2 := addL_facts f1.1 f2.1
  refine falls_one f3.1 a2.1 (fun m _ => ?_)
  rw [f3.2.1, a1.2, a2.2, f1.2.1, f2.2.1, Int.mul_emod, em, ← Int.mul_emod, Int.mul_add, Int.add_emod]
theorem sc_twice {c d : Int} {L : List T} (c1 : 0 ≤ c) (c2 : c ≤ 100) (d1 : 0 ≤ d) (d2 : d ≤ 100) (hL : okL L = true) : scV d (scV c L) = scV (fMul c d) L := by
  have f1 := scV_facts c1 c2 hL
  have o1 : okL (scV c L) = true := okL_of (by have := (okL_falls hL).1; omega) f1.1
  have f2 := scV_facts d1 d2 o1
  have f3 := scV_facts (fMul_bd c d).1 (fMul_bd c d).2 hL
  refine falls_one f2.1 f3.1 (fun m _ => ?_)
  rw [f2.2.1, f1.2.1, f3.2.1, fMul_in c1 c2 d1 d2, Int.mul_emod, em, ← Int.mul_emod, Int.mul_emod (c * d % 101), em, ← Int.mul_emod, ← Int.mul_assoc, Int.mul_comm d c]
theorem sc_plus {c d : Int} {L : List T} (c1 : 0 ≤ c) (c2 : c ≤ 100) (d1 : 0 ≤ d) (d2 : d ≤ 100) (hL : okL L = true) : scV (fAdd c d) L = addL (scV c L) (scV d L) := by
  have f1 := scV_facts c1 c2 hL
  have f2 := scV_facts d1 d2 hL
  have a2 := addL_facts f1.1 f2.1
  have hr : 0 ≤ fAdd c d ∧ fAdd c d ≤ 100 := by rw [fAdd_in c1 c2 d1 d2]; omega
  have f3 := scV_facts hr.1 hr.2 hL
  refine falls_one f3.1 a2.1 (fun m _ => ?_)
  rw [f3.2.1, a2.2, f1.2.1, f2.2.1, fAdd_in c1 c2 d1 d2, Int.mul_emod, em, ← Int.mul_emod, Int.add_mul, Int.add_emod]
theorem sc_one {L : List T} (hL : okL L = true) : scV 1 L = L := by
  have f1 := scV_facts (c := 1) (by omega) (by omega) hL
  have hF := (okL_falls hL).2
  refine falls_one f1.1 hF (fun m _ => ?_)
  have := coef_range hF m
  rw [f1.2.1]
  omega
/-! the most that is counted -/
def moL (q : M → Int) (L : List T) : Int := filMost q L.length (lf L)
theorem most_ge (q : M → Int) (f : Nat → T) : ∀ n i, i < n → q (f i).m ≤ mostL q f n
  | 0, i, h => absurd h (Nat.not_lt_zero _)
  | n + 1, i, h => by
    unfold mostL
    by_cases e : i = n
    · rw [e]
      split <;> omega
    · have := most_ge q f n i (by omega)
      split <;> omega
theorem most_at (q : M → Int) (f : Nat → T) : ∀ n, mostL q f n = -1 ∨ ∃ i, i < n ∧ mostL q f n = q (f i).m
  | 0 => .inl rfl
  | n + 1 => by
    unfold mostL
    split
    · exact .inr ⟨n, by omega, rfl⟩
    · rcases most_at q f n with h | ⟨i, hi, h⟩
      · exact .inl h
      · exact .inr ⟨i, by omega, h⟩
theorem most_low (q : M → Int) (f : Nat → T) : ∀ n, -1 ≤ mostL q f n
  | 0 => Int.le_refl _
  | n + 1 => by have := most_low q f n; unfold mostL; split <;> omega
theorem moL_is {q : M → Int} {L : List T} (h : okL L = true) : moL q L = mostL q (lf L) L.length := if_pos h
theorem moL_ge {q : M → Int} {L : List T} (h : okL L = true) {t : T} (ht : t ∈ L) : q t.m ≤ moL q L := by
  rw [moL_is h]
  obtain ⟨i, hi, rfl⟩ := List.mem_iff_getElem.1 ht
  have := most_ge q (lf L) L.length i hi
  rwa [lf_eq hi] at this
theorem moL_at {q : M → Int} {L : List T} (h : okL L = true) : moL q L = -1 ∨ ∃ t ∈ L, moL q L = q t.m := by
  rw [moL_is h]
  rcases most_at q (lf L) L.length with h1 | ⟨i, hi, h1⟩
  · exact .inl h1
  · exact .inr ⟨L[i], List.getElem_mem hi, by rw [h1, lf_eq hi]⟩
theorem moL_low {q : M → Int} {L : List T} (h : okL L = true) : -1 ≤ moL q L := by rw [moL_is h]; exact most_low q (lf L) L.length
theorem coef_ne_mem {m : M} : ∀ {L : List T}, coef L m ≠ 0 → ∃ t ∈ L, t.m = m
  | [], h => absurd rfl h
  | t :: r, h => by
    rw [coef] at h
    split at h
    · rename_i he
      exact ⟨t, List.mem_cons_self .., meqB_iff.1 he⟩
    · obtain ⟨s, hs, e⟩ := coef_ne_mem h
      exact ⟨s, List.mem_cons_of_mem _ hs, e⟩
theorem mem_coef {L : List T} (h : Falls L) {t : T} (ht : t ∈ L) : coef L t.m = t.c ∧ coef L t.m ≠ 0 := by
  have h1 : coef L t.m = t.c := by
    induction L with
    | nil => cases ht
    | cons s r ih =>
      rw [coef]
      rcases List.mem_cons.1 ht with rfl | ht'
      · rw [if_pos (meqB_iff.2 rfl)]
      · have h1 := h.head t ht'
        rw [if_neg (fun e => by rw [meqB_iff.1 e] at h1; omega)]
        exact ih h.tail ht'
  have h2 := h.2 t ht
  exact ⟨h1, by omega⟩
theorem mo_sum_le {q : M → Int} {L K : List T} (hL : okL L = true) (hK : okL K = true) (hs : (addL L K).length ≤ 400) : moL q (addL L K) ≤ max (moL q L) (moL q K) := by
  have fL := (okL_falls hL).2
  have fK := (okL_falls hK).2
  have a1 := addL_facts fL fK
  have l1 := moL_low (q := q) hL
  rcases moL_at (q := q) (okL_of hs a1.1) with h | ⟨t, ht, h⟩
  · omega
  · rw [h]
    have h1 := (mem_coef a1.1 ht).2
    rw [a1.2] at h1
    by_cases h2 : coef L t.m = 0
    · have h3 : coef K t.m ≠ 0 := fun e => h1 (by rw [h2, e]; rfl)
      obtain ⟨s, hs2, e⟩ := coef_ne_mem h3
      have := moL_ge (q := q) hK hs2
      rw [e] at this
      omega
    · obtain ⟨s, hs2, e⟩ := coef_ne_mem h2
      have := moL_ge (q := q) hL hs2
      rw [e] at this
      omega
theorem mo_sum_gt {q : M → Int} {L K : List T} (hL : okL L = true) (hK : okL K = true) (hs : (addL L K).length ≤ 400) (h : moL q K < moL q L) : moL q (addL L K) = moL q L := by
  have fL := (okL_falls hL).2
  have fK := (okL_falls hK).2
  have a1 := addL_facts fL fK
  have hle := mo_sum_le (q := q) hL hK hs
  have l1 := moL_low (q := q) hK
  rcases moL_at (q := q) hL with h1 | ⟨t, ht, h1⟩
  · omega
  · have h2 := (mem_coef fL ht)
    have h3 : coef K t.m = 0 := by
      by_cases hz : coef K t.m = 0
      · exact hz
      · obtain ⟨s, hs2, e⟩ := coef_ne_mem hz
        have := moL_ge (q := q) hK hs2
        rw [e] at this
        omega
    have h4 : coef (addL L K) t.m ≠ 0 := by
      have hr := coef_range fL t.m
      rw [a1.2, h3]
      have := h2.2
      omega
    obtain ⟨s, hs2, e⟩ := coef_ne_mem h4
    have := moL_ge (q := q) (okL_of hs a1.1) hs2
    rw [e] at this
    omega
theorem mo_sum_ne {q : M → Int} {L K : List T} (hL : okL L = true) (hK : okL K = true) (hs : (addL L K).length ≤ 400) (h : moL q L ≠ moL q K) : moL q (addL L K) = max (moL q L) (moL q K) := by
  rcases Int.lt_trichotomy (moL q L) (moL q K) with h1 | h1 | h1
  · have e := addL_comm (okL_falls hL).2 (okL_falls hK).2
    rw [e] at hs ⊢
    rw [mo_sum_gt hK hL hs h1]
    omega
  · exact absurd h1 h
  · rw [mo_sum_gt hL hK hs h1]
    omega
theorem ordI_L {w : World} {a : Option Addr} {ca : Nat} {L : List T} (ha : RL w a ca L) : Calls Tryz.prog 12 #[.slice a L.length ca] w (Val w (.int .i64 (moL slp L))) := filOrderI w a L.length ca (lf L) ha
end Go.Proofs.YtlndccbgbclnhaaGreat
namespace Go.Proofs.YtlndccbgbclnhaaGreat
open Go.RowKit
set_option linter.unusedVariables false

theorem dgt16 {a b c d : Int} (hb : 0 ≤ b ∧ b ≤ 15) (hd : 0 ≤ d ∧ d ≤ 15) (h : a * 16 + b = c * 16 + d) : a = c ∧ b = d := by omega
theorem dgt65 {a b c d : Int} (hb : 0 ≤ b ∧ b ≤ 65535) (hd : 0 ≤ d ∧ d ≤ 65535) (h : a * 65536 + b = c * 65536 + d) : b = d := by omega
theorem dgt65_le {a b c d : Int} (hb : 0 ≤ b ∧ b ≤ 65535) (hd : 0 ≤ d ∧ d ≤ 65535) (h : a * 65536 + b ≤ c * 65536 + d) : a ≤ c := by omega
theorem rkL_bdD {a : M} (ha : a.ok = true) : 0 ≤ rkL a ∧ rkL a ≤ 65535 := by
  obtain ⟨x1, x2, y1, y2, d1, d2, e1, e2⟩ := M.ok_iff.1 ha
  unfold rkL
  omega
theorem rkL_injD {a b : M} (ha : a.ok = true) (hb : b.ok = true) (h : rkL a = rkL b) : a = b := by
  obtain ⟨x1, x2, y1, y2, d1, d2, e1, e2⟩ := M.ok_iff.1 ha
  obtain ⟨x3, x4, y3, y4, d3, d4, e3, e4⟩ := M.ok_iff.1 hb
  unfold rkL at h
  have k1 := dgt16 ⟨y1, y2⟩ ⟨y3, y4⟩ h
  have k2 := dgt16 ⟨x1, x2⟩ ⟨x3, x4⟩ k1.1
  have k3 := dgt16 ⟨e1, e2⟩ ⟨e3, e4⟩ k2.1
  have q1 := k1.2
  have q2 := k2.2
  have q3 := k3.2
  have q4 := k3.1
  revert q1 q2 q3 q4
  cases a; cases b
  intro q1 q2 q3 q4
  simp only at q1 q2 q3 q4
  rw [q1, q2, q3, q4]
/-- what is counted, and no more by taking away. -/
def Cnt (q : M → Int) : Prop := ∀ (a b : M) (i k : Nat), q ⟨a.x + b.x - i, a.y + b.y - k, a.d + b.d - i, a.e + b.e - k⟩ ≤ q a + q b ∧ q (a.sum b) = q a + q b
theorem slp_cnt : Cnt slp := fun a b i k => by simp only [slp, M.sum]; omega
theorem dgr_cnt : Cnt dgr := fun a b i k => by simp only [dgr, M.sum]; omega
def wq (q : M → Int) (m : M) : Int := q m * 65536 + rkL m
theorem wq_wt {q : M → Int} (h : Cnt q) : Wt (wq q) := fun a b i k => by
  have h1 := (h a b i k)
  have r1 : rkL ⟨a.x + b.x - i, a.y + b.y - k, a.d + b.d - i, a.e + b.e - k⟩ ≤ rkL a + rkL b - i - k := by unfold rkL; simp only; omega
  have r2 : rkL (a.sum b) = rkL a + rkL b := by unfold rkL M.sum; simp only; omega
  unfold wq
  rw [h1.2, r2]
  omega
theorem wq_inj {q : M → Int} (a b : M) (ha : a.ok = true) (hb : b.ok = true) (h : wq q a = wq q b) : a = b := rkL_injD ha hb (dgt65 (rkL_bdD ha) (rkL_bdD hb) h)
theorem list_max {α : Type} (f : α → Int) : ∀ L : List α, L ≠ [] → ∃ t ∈ L, ∀ s ∈ L, f s ≤ f t
  | [], h => absurd rfl h
  | [t], _ => ⟨t, List.mem_singleton.2 rfl, fun s hs => by rw [List.mem_singleton.1 hs]; exact Int.le_refl _⟩
  | t :: s :: r, _ => by
    obtain ⟨m, hm, hl⟩ := list_max f (s :: r) (by simp)
    by_cases h : f m ≤ f t
    · exact ⟨t, List.mem_cons_self .., fun x hx => by
        rcases List.mem_cons.1 hx with rfl | hx
        · exact Int.le_refl _
        · exact Int.le_trans (hl x hx) h⟩
    · exact ⟨m, List.mem_cons_of_mem _ hm, fun x hx => by
        rcases List.mem_cons.1 hx with rfl | hx
        · omega
        · exact hl x hx⟩
theorem mo_top {q : M → Int} (hq : ∀ m : M, m.ok = true → 0 ≤ q m) {L : List T} (hL : okL L = true) {t0 : T} (h0 : t0 ∈ L) (hm : ∀ t ∈ L, q t.m ≤ q t0.m) : moL q L = q t0.m := by
  have h1 := moL_ge (q := q) hL h0
  have h2 := hq _ ((okL_falls hL).2.2 t0 h0).1
  rcases moL_at (q := q) hL with h | ⟨t, ht, h⟩
  · omega
  · have := hm t ht; omega
theorem mo_prod {q : M → Int} (hc : Cnt q) (hq : ∀ m : M, m.ok = true → 0 ≤ q m) {A B P : List T} (h : wmV A B = (P, true)) (hA : A ≠ []) (hB : B ≠ []) : P ≠ [] ∧ moL q P = moL q A + moL q B := by
  obtain ⟨oA, oB⟩ := wm_args h
  have fA := (okL_falls oA).2
  have fB := (okL_falls oB).2
  have fP := wm_falls h
  obtain ⟨a0, ha0, ha⟩ := list_max (fun t : T => wq q t.m) A hA
  obtain ⟨b0, hb0, hb⟩ := list_max (fun t : T => wq q t.m) B hB
  have hp := lead_prod (wq_wt hc) wq_inj h ha0 hb0 ha hb
  have hs := (wm_lin h).2 a0 ha0 b0 hb0
  have hne : P ≠ [] := fun e => by
    rw [e] at hp
    cases hp.1
  refine ⟨hne, ?_⟩
  have eA := mo_top hq oA ha0 (fun t ht => dgt65_le (rkL_bdD (fA.2 t ht).1) (rkL_bdD (fA.2 a0 ha0).1) (ha t ht))
  have eB := mo_top hq oB hb0 (fun t ht => dgt65_le (rkL_bdD (fB.2 t ht).1) (rkL_bdD (fB.2 b0 hb0).1) (hb t ht))
  have eP := mo_top hq (wm_ok h) hp.1 (fun t ht => dgt65_le (rkL_bdD (fP.2 t ht).1) (rkL_bdD hs) (hp.2 t ht))
  rw [eP, eA, eB]
  exact (hc a0.m b0.m 0 0).2
theorem slp_nnD (m : M) (h : m.ok = true) : 0 ≤ slp m := by
  obtain ⟨x1, x2, y1, y2, d1, d2, e1, e2⟩ := M.ok_iff.1 h
  unfold slp; omega
theorem dgr_nnD (m : M) (h : m.ok = true) : 0 ≤ dgr m := by
  obtain ⟨x1, x2, y1, y2, d1, d2, e1, e2⟩ := M.ok_iff.1 h
  unfold dgr; omega
theorem mo_bdD {q : M → Int} (hq : ∀ m : M, m.ok = true → q m ≤ 60) {L : List T} (hL : okL L = true) : -1 ≤ moL q L ∧ moL q L ≤ 60 := by
  refine ⟨moL_low hL, ?_⟩
  rcases moL_at (q := q) hL with h | ⟨t, ht, h⟩
  · omega
  · rw [h]; exact hq _ ((okL_falls hL).2.2 t ht).1
theorem slp_hiD (m : M) (h : m.ok = true) : slp m ≤ 60 := by
  obtain ⟨x1, x2, y1, y2, d1, d2, e1, e2⟩ := M.ok_iff.1 h
  unfold slp; omega
theorem dgr_hiD (m : M) (h : m.ok = true) : dgr m ≤ 60 := by
  obtain ⟨x1, x2, y1, y2, d1, d2, e1, e2⟩ := M.ok_iff.1 h
  unfold dgr; omega
end Go.Proofs.YtlndccbgbclnhaaGreat
