/-
  Tops: the most that is counted in a term, and the terms in which just so many are: the program.
  Tops: the model.
  Laws of lists: so many times a sum; the most that is counted in a sum.
-/
import Derived.Test.YtnfgiplgkobnlaaGreatDoorGap
import Derived.Test.YtnfgiplgkobnlaaGreatDoorGah
import Derived.Deep.RegionHeld3
import Derived.Shelf.Abstract
import Derived.Test.YtnfgiplgkobnlaaGreatDoorGaq
namespace Go.Proofs.YtnfgiplgkobnlaaGreatDoor
open Go.RowKit
set_option linter.unusedVariables false

def slp (m : M) : Int := m.d + m.e
def dgr (m : M) : Int := m.x + m.y + m.d + m.e
/-- the most that is counted in the first terms; -1 of none. -/
def mostL (q : M → Int) (f : Nat → T) : Nat → Int
  | 0 => -1
  | i + 1 => if mostL q f i < q (f i).m then q (f i).m else mostL q f i
theorem most_max (q : M → Int) (f : Nat → T) (k : Nat) : max (mostL q f k) (q (f k).m) = mostL q f (k + 1) := by
  show _ = if mostL q f k < q (f k).m then q (f k).m else mostL q f k
  split <;> omega
def filMost (q : M → Int) (n : Nat) (f : Nat → T) : Int := if polOk n f = true then mostL q f n else -1
/-- those of the first terms that are wanted. -/
def wantL (p : T → Bool) (f : Nat → T) : Nat → List T
  | 0 => []
  | i + 1 => if p (f i) = true then wantL p f i ++ [f i] else wantL p f i
theorem wantL_len (p : T → Bool) (f : Nat → T) : ∀ i, (wantL p f i).length ≤ i
  | 0 => Nat.le_refl _
  | i + 1 => by
    have := wantL_len p f i
    unfold wantL
    split
    · rw [List.length_append]; simp; omega
    · omega
def filWith (q : M → Int) (v : Int) (f : Nat → T) (n : Nat) : List T := if polOk n f = true then wantL (fun t => q t.m == v) f n else []
theorem polOk_n {n : Nat} {f : Nat → T} (h : polOk n f = true) : n ≤ 400 := by simp only [polOk, decide_eq_true_eq] at h; exact h.1
theorem filWith_len (q : M → Int) (v : Int) (f : Nat → T) (n : Nat) : (filWith q v f n).length ≤ 400 := by
  unfold filWith
  split
  · rename_i h
    exact Nat.le_trans (wantL_len _ f n) (polOk_n h)
  · simp
/-- what a function counts in a monomial that is ok. -/
def Counts (g : Nat) (q : M → Int) : Prop := ∀ (m : M) (W : World), m.ok = true → Calls Tryz.prog g #[.agg #[.int .i64 m.x, .int .i64 m.y, .int .i64 m.d, .int .i64 m.e]] W fun r w' => r = .returned (.int .i64 (q m)) ∧ Below W.heap.size W w'
theorem degreeC : Counts 57 dgr := fun m W h => degreeI m.x m.y m.d m.e W h
theorem boxes_kept {w w1 W' : World} {A B : Value} {tA tB : TypeId} (h1 : Below ((w.alloc (.cells #[A] tA)).alloc (.cells #[B] tB)).heap.size ((w.alloc (.cells #[A] tA)).alloc (.cells #[B] tB)) w1) (hb : Below w1.heap.size w1 W') : W'.cell? ⟨w.heap.size, 0, none⟩ = some A ∧ W'.cell? ⟨w.heap.size + 1, 0, none⟩ = some B := by
  have hs : ((w.alloc (.cells #[A] tA)).alloc (.cells #[B] tB)).heap.size = w.heap.size + 2 := by simp
  have hl : w.heap.size + 2 ≤ w1.heap.size := by rw [← hs]; exact h1.size
  refine ⟨(hb.cell (p := ⟨w.heap.size, 0, none⟩) (show w.heap.size < w1.heap.size by omega)).trans ((h1.cell (p := ⟨w.heap.size, 0, none⟩) (by rw [hs]; show w.heap.size < _; omega)).trans ?_), (hb.cell (p := ⟨w.heap.size + 1, 0, none⟩) (show w.heap.size + 1 < w1.heap.size by omega)).trans ((h1.cell (p := ⟨w.heap.size + 1, 0, none⟩) (by rw [hs]; show w.heap.size + 1 < _; omega)).trans ?_)⟩
  · have : Below (w.alloc (.cells #[A] tA)).heap.size (w.alloc (.cells #[A] tA)) ((w.alloc (.cells #[A] tA)).alloc (.cells #[B] tB)) := (Below.refl _ _).alloc (Nat.le_refl _) _
    refine (this.cell (p := ⟨w.heap.size, 0, none⟩) (by simp)).trans ?_
    rw [World.cell?_alloc_at _ _ _ _ rfl]; rfl
  · have e : w.heap.size + 1 = (w.alloc (.cells #[A] tA)).heap.size := by simp
    rw [e, World.cell?_alloc_at _ _ _ _ rfl]; rfl
def filSymbol (f : Nat → T) (n : Nat) : List T := filWith slp (filMost slp n f) f n
theorem filSymbol_len (f : Nat → T) (n : Nat) : (filSymbol f n).length ≤ 400 := filWith_len _ _ _ _
def filPart (f : Nat → T) (n : Nat) (v : Int) : List T := filWith dgr v f n
theorem filPart_len (f : Nat → T) (n : Nat) (v : Int) : (filPart f n v).length ≤ 400 := filWith_len _ _ _ _
end Go.Proofs.YtnfgiplgkobnlaaGreatDoor
namespace Go.Proofs.YtnfgiplgkobnlaaGreatDoor
open Go.RowKit
set_option linter.unusedVariables false

theorem mx_if (a b : Int) : mx a b = if a < b then b else a := by unfold mx; split <;> split <;> omega
theorem mostL_succ (q : M → Int) (f : Nat → T) (k : Nat) : mostL q f (k + 1) = mx (mostL q f k) (q (f k).m) := by rw [mx_if]; rfl
theorem ord_deg {a b : M} (h : 0 < M.ord 1 a b) : b.deg ≤ a.deg := by
  unfold M.ord at h
  by_cases he : a.deg = b.deg
  · omega
  · rw [if_pos ⟨rfl, he⟩] at h
    unfold c3 at h
    split at h
    · omega
    · omega
theorem deg_ok {m : M} (h : m.ok = true) : m.deg = dgr m := by simp [M.deg, dgr, h]
theorem most_deg {n : Nat} {f : Nat → T} (hp : polOk n f = true) : ∀ i, i < n → mostL dgr f (i + 1) = dgr (f 0).m ∧ dgr (f i).m ≤ dgr (f 0).m
  | 0, h => by
    have hm := M.ok_iff.1 (polOk_m hp 0 h)
    refine ⟨?_, Int.le_refl _⟩
    show (if (-1 : Int) < dgr (f 0).m then dgr (f 0).m else -1) = _
    rw [if_pos (by unfold dgr; omega)]
  | i + 1, h => by
    obtain ⟨h1, h2⟩ := most_deg hp i (by omega)
    have hm := polOk_m hp
    have ho : okAt f (i + 1) = true := by have hh := hp; simp only [polOk, decide_eq_true_eq] at hh; exact hh.2 (i + 1) h
    simp only [okAt, Bool.and_eq_true, Bool.or_eq_true, decide_eq_true_eq, Nat.add_sub_cancel] at ho
    have h3 := ord_deg (ho.2.resolve_left (by omega))
    rw [deg_ok (hm _ h), deg_ok (hm i (by omega))] at h3
    have h4 : dgr (f (i + 1)).m ≤ dgr (f 0).m := by omega
    refine ⟨?_, h4⟩
    rw [mostL, h1, if_neg (by omega)]
end Go.Proofs.YtnfgiplgkobnlaaGreatDoor
namespace Go.Proofs.YtnfgiplgkobnlaaGreatDoor
open Go.RowKit
set_option linter.unusedVariables false

theorem em (a : Int) : a % 101 % 101 = a % 101 := by omega
theorem sc_sum {c : Int} {L K : List T} (c1 : 0 ≤ c) (c2 : c ≤ 100) (hL : okL L = true) (hK : okL K = true) (hs : (addL L K).length ≤ 400) : scV c (addL L K) = addL (scV c L) (scV c K) := by
  have f1 := scV_facts c1 c2 hL
  have f2 := scV_facts c1 c2 hK
  have a1 := addL_facts (okL_falls hL).2 (okL_falls hK).2
  have f3 := scV_facts c1 c2 (okL_of hs a1.1)
  have a2 := addL_facts f1.1 f2.1
  refine falls_one f3.1 a2.1 (fun m _ => ?_)
  rw [f3.2.1, a1.2, a2.2, f1.2.1, f2.2.1, Int.mul_emod, em, ← Int.mul_emod, Int.mul_add, Int.add_emod]
theorem sc_twice {c d : Int} {L : List T} (c1 : 0 ≤ c) (c2 : c ≤ 100) (d1 : 0 ≤ d) (d2 : d ≤ 100) (hL : okL L = true) : scV d (scV c L) = scV (fMul c d) L := by
  have f1 := scV_facts c1 c2 hL
  have o1 : okL (scV c L) = true := okL_of (by have := (okL_falls hL).1; omega) f1.1
  have f2 := scV_facts d1 d2 o1
  have f3 := scV_facts (fMul_bd c d).1 (fMul_bd c d).2 hL
  refine falls_one f2.1 f3.1 (fun m _ => ?_)
  rw [f2.2.1, f1.2.1, f3.2.1, fMul_in c1 c2 d1 d2, Int.mul_emod, em, ← Int.mul_emod, Int.mul_emod (c * d % 101), em, ← Int.mul_emod, ← Int.mul_assoc, Int.mul_comm d c]
theorem sc_plus {c d : Int} {L : List T} (c1 : 0 ≤ c) (c2 : c ≤ 100) (d1 : 0 ≤ d) (d2 : d ≤ 100) (hL : okL L = true) : scV (fAdd c d) L = addL (scV c L) (scV d L) := by
  have f1 := scV_facts c1 c2 hL
  have f2 := scV_facts d1 d2 hL
  have a2 := addL_facts f1.1 f2.1
  have hr : 0 ≤ fAdd c d ∧ fAdd c d ≤ 100 := by rw [fAdd_in c1 c2 d1 d2]; omega
  have f3 := scV_facts hr.1 hr.2 hL
  refine falls_one f3.1 a2.1 (fun m _ => ?_)
  rw [f3.2.1, a2.2, f1.2.1, f2.2.1, fAdd_in c1 c2 d1 d2, Int.mul_emod, em, ← Int.mul_emod, Int.add_mul, Int.add_emod]
theorem sc_one {L : List T} (hL : okL L = true) : scV 1 L = L := by
  have f1 := scV_facts (c := 1) (by omega) (by omega) hL
  have hF := (okL_falls hL).2
  refine falls_one f1.1 hF (fun m _ => ?_)
  have := coef_range hF m
  rw [f1.2.1]
  omega
/-! the most that is counted -/
def moL (q : M → Int) (L : List T) : Int := filMost q L.length (lf L)
theorem most_ge (q : M → Int) (f : Nat → T) : ∀ n i, i < n → q (f i).m ≤ mostL q f n
  | 0, i, h => absurd h (Nat.not_lt_zero _)
  | n + 1, i, h => by
    unfold mostL
    by_cases e : i = n
    · rw [e]
      split <;> omega
    · have := most_ge q f n i (by omega)
      split <;> omega
theorem most_at (q : M → Int) (f : Nat → T) : ∀ n, mostL q f n = -1 ∨ ∃ i, i < n ∧ mostL q f n = q (f i).m
  | 0 => .inl rfl
  | n + 1 => by
    unfold mostL
    split
    · exact .inr ⟨n, by omega, rfl⟩
    · rcases most_at q f n with h | ⟨i, hi, h⟩
      · exact .inl h
      · exact .inr ⟨i, by omega, h⟩
theorem most_low (q : M → Int) (f : Nat → T) : ∀ n, -1 ≤ mostL q f n
  | 0 => Int.le_refl _
  | n + 1 => by have := most_low q f n; unfold mostL; split <;> omega
theorem moL_is {q : M → Int} {L : List T} (h : okL L = true) : moL q L = mostL q (lf L) L.length := if_pos h
theorem moL_ge {q : M → Int} {L : List T} (h : okL L = true) {t : T} (ht : t ∈ L) : q t.m ≤ moL q L := by
  rw [moL_is h]
  obtain ⟨i, hi, rfl⟩ := List.mem_iff_getElem.1 ht
  have := most_ge q (lf L) L.length i hi
  rwa [lf_eq hi] at this
theorem moL_at {q : M → Int} {L : List T} (h : okL L = true) : moL q L = -1 ∨ ∃ t ∈ L, moL q L = q t.m := by
  rw [moL_is h]
  rcases most_at q (lf L) L.length with h1 | ⟨i, hi, h1⟩
  · exact .inl h1
  · exact .inr ⟨L[i], List.getElem_mem hi, by rw [h1, lf_eq hi]⟩
theorem moL_low {q : M → Int} {L : List T} (h : okL L = true) : -1 ≤ moL q L := by rw [moL_is h]; exact most_low q (lf L) L.length
theorem coef_ne_mem {m : M} : ∀ {L : List T}, coef L m ≠ 0 → ∃ t ∈ L, t.m = m
  | [], h => absurd rfl h
  | t :: r, h => by
    rw [coef] at h
    split at h
    · rename_i he
      exact ⟨t, List.mem_cons_self .., meqB_iff.1 he⟩
    · obtain ⟨s, hs, e⟩ := coef_ne_mem h
      exact ⟨s, List.mem_cons_of_mem _ hs, e⟩
theorem mem_coef {L : List T} (h : Falls L) {t : T} (ht : t ∈ L) : coef L t.m = t.c ∧ coef L t.m ≠ 0 := by
  have h1 : coef L t.m = t.c := by
    induction L with
    | nil => cases ht
    | cons s r ih =>
      rw [coef]
      rcases List.mem_cons.1 ht with rfl | ht'
      · rw [if_pos (meqB_iff.2 rfl)]
      · have h1 := h.head t ht'
        rw [if_neg (fun e => by rw [meqB_iff.1 e] at h1; omega)]
        exact ih h.tail ht'
  have h2 := h.2 t ht
  exact ⟨h1, by omega⟩
theorem mo_sum_le {q : M → Int} {L K : List T} (hL : okL L = true) (hK : okL K = true) (hs : (addL L K).length ≤ 400) : moL q (addL L K) ≤ max (moL q L) (moL q K) := by
  have fL := (okL_falls hL).2
  have fK := (okL_falls hK).2
  have a1 := addL_facts fL fK
  have l1 := moL_low (q := q) hL
  rcases moL_at (q := q) (okL_of hs a1.1) with h | ⟨t, ht, h⟩
  · omega
  · rw [h]
    have h1 := (mem_coef a1.1 ht).2
    rw [a1.2] at h1
    by_cases h2 : coef L t.m = 0
    · have h3 : coef K t.m ≠ 0 := fun e => h1 (by rw [h2, e]; rfl)
      obtain ⟨s, hs2, e⟩ := coef_ne_mem h3
      have := moL_ge (q := q) hK hs2
      rw [e] at this
      omega
    · obtain ⟨s, hs2, e⟩ := coef_ne_mem h2
      have := moL_ge (q := q) hL hs2
      rw [e] at this
      omega
theorem mo_sum_gt {q : M → Int} {L K : List T} (hL : okL L = true) (hK : okL K = true) (hs : (addL L K).length ≤ 400) (h : moL q K < moL q L) : moL q (addL L K) = moL q L := by
  have fL := (okL_falls hL).2
  have fK := (okL_falls hK).2
  have a1 := addL_facts fL fK
  have hle := mo_sum_le (q := q) hL hK hs
  have l1 := moL_low (q := q) hK
  rcases moL_at (q := q) hL with h1 | ⟨t, ht, h1⟩
  · omega
  · have h2 := (mem_coef fL ht)
    have h3 : coef K t.m = 0 := by
      by_cases hz : coef K t.m = 0
      · exact hz
      · obtain ⟨s, hs2, e⟩ := coef_ne_mem hz
        have := moL_ge (q := q) hK hs2
        rw [e] at this
        omega
    have h4 : coef (addL L K) t.m ≠ 0 := by
      have hr := coef_range fL t.m
      rw [a1.2, h3]
      have := h2.2
      omega
    obtain ⟨s, hs2, e⟩ := coef_ne_mem h4
    have := moL_ge (q := q) (okL_of hs a1.1) hs2
    rw [e] at this
    omega
theorem mo_sum_ne {q : M → Int} {L K : List T} (hL : okL L = true) (hK : okL K = true) (hs : (addL L K).length ≤ 400) (h : moL q L ≠ moL q K) : moL q (addL L K) = max (moL q L) (moL q K) := by
  rcases Int.lt_trichotomy (moL q L) (moL q K) with h1 | h1 | h1
  · have e := addL_comm (okL_falls hL).2 (okL_falls hK).2
    rw [e] at hs ⊢
    rw [mo_sum_gt hK hL hs h1]
    omega
  · exact absurd h1 h
  · rw [mo_sum_gt hL hK hs h1]
    omega
end Go.Proofs.YtnfgiplgkobnlaaGreatDoor
