/-
  Laws of lists: tops and parts; an operator is the sum of its terms.
  Texts of monomials and numbers, as lists of bytes.
  Texts of operators, as lists of bytes; the library's table of powers of ten.
-/
import Derived.Test.YtnfgiplgkobnlaaGreatDoorGba
import Derived.Test.YtnfgiplgkobnlaaGreatDoorGab
import Derived.Lib.ItoaNum
import Derived.Lib.UnsafeStr
import Derived.Test.YtnfgiplgkobnlaaGreatDoorGac
import Derived.Lib.Join
import Derived.Lib.LaidTab
import Derived.Lib.AppendIntMem
import Derived.Shelf.Lay
import Derived.Shelf.Strconv.Itoa3
import Derived.Shelf.Strings.OnBuilder
import Derived.Ground.NamesProg
namespace Go.Proofs.YtnfgiplgkobnlaaGreatDoor
open Go.RowKit
set_option linter.unusedVariables false

theorem list_is (L : List T) : (List.range L.length).map (lf L) = L := by
  refine List.ext_getElem (by simp) (fun i h1 h2 => ?_)
  simp [lf_eq h2]
theorem wantL_filter (p : T → Bool) (f : Nat → T) : ∀ n, wantL p f n = ((List.range n).map f).filter p
  | 0 => rfl
  | n + 1 => by
    rw [wantL, wantL_filter p f n, List.range_succ, List.map_append, List.filter_append]
    by_cases h : p (f n) = true
    · simp [h]
    · simp [h]
theorem wantL_is (p : T → Bool) (L : List T) : wantL p (lf L) L.length = L.filter p := by rw [wantL_filter, list_is]
def partV (v : Int) (L : List T) : List T := filPart (lf L) L.length v
def symV (L : List T) : List T := filSymbol (lf L) L.length
theorem partV_ok {v : Int} {L : List T} (h : okL L = true) : partV v L = L.filter (fun t => dgr t.m == v) := by
  unfold partV filPart filWith
  rw [if_pos (show polOk L.length (lf L) = true from h), wantL_is]
theorem partV_bad {v : Int} {L : List T} (h : okL L = false) : partV v L = [] := by
  unfold partV filPart filWith
  rw [if_neg (by rw [show polOk L.length (lf L) = false from h]; simp)]
theorem symV_ok {L : List T} (h : okL L = true) : symV L = L.filter (fun t => slp t.m == moL slp L) := by
  unfold symV filSymbol filWith
  rw [if_pos (show polOk L.length (lf L) = true from h), wantL_is]
  rfl
theorem symV_bad {L : List T} (h : okL L = false) : symV L = [] := by
  unfold symV filSymbol filWith
  rw [if_neg (by rw [show polOk L.length (lf L) = false from h]; simp)]
theorem moL_bad {q : M → Int} {L : List T} (h : okL L = false) : moL q L = -1 := if_neg (by rw [show polOk L.length (lf L) = false from h]; simp)
theorem falls_sub {L K : List T} (h : K.Sublist L) (hL : Falls L) : Falls K := ⟨hL.1.sublist h, fun t ht => hL.2 t (h.subset ht)⟩
theorem coef_filter (P : M → Bool) (m : M) : ∀ L : List T, coef (L.filter (fun t => P t.m)) m = if P m = true then coef L m else 0
  | [] => by simp [coef]
  | t :: r => by
    have ih := coef_filter P m r
    by_cases hp : P t.m = true
    · rw [List.filter_cons_of_pos (by exact hp), coef, coef]
      by_cases he : t.m = m
      · rw [if_pos (meqB_iff.2 he), if_pos (meqB_iff.2 he), ← he, if_pos hp]
      · rw [if_neg (fun e => he (meqB_iff.1 e)), if_neg (fun e => he (meqB_iff.1 e)), ih]
    · rw [List.filter_cons_of_neg (by exact hp), coef, ih]
      by_cases he : t.m = m
      · rw [← he, if_neg hp, if_neg hp]
      · rw [if_neg (fun e => he (meqB_iff.1 e))]
/-- the parts below v, together. -/
def lowL (v : Int) (L : List T) : List T := L.filter (fun t => decide (dgr t.m < v))
theorem low_step {L : List T} (hL : Falls L) (v : Int) : addL (lowL v L) (L.filter (fun t => dgr t.m == v)) = lowL (v + 1) L := by
  have f1 : Falls (lowL v L) := falls_sub List.filter_sublist hL
  have f2 : Falls (L.filter (fun t => dgr t.m == v)) := falls_sub List.filter_sublist hL
  have f3 : Falls (lowL (v + 1) L) := falls_sub List.filter_sublist hL
  have a1 := addL_facts f1 f2
  refine falls_one a1.1 f3 (fun m _ => ?_)
  have r := coef_range hL m
  rw [a1.2]
  unfold lowL
  rw [coef_filter (fun m => decide (dgr m < v)), coef_filter (fun m => dgr m == v), coef_filter (fun m => decide (dgr m < v + 1))]
  simp only [decide_eq_true_eq, beq_iff_eq]
  by_cases h1 : dgr m < v
  · rw [if_pos h1, if_neg (by omega), if_pos (by omega)]
    omega
  · by_cases h2 : dgr m = v
    · rw [if_neg h1, if_pos h2, if_pos (by omega)]
      omega
    · rw [if_neg h1, if_neg h2, if_neg (by omega)]
      rfl
theorem low_len (v : Int) (L : List T) : (lowL v L).length ≤ L.length := List.length_filter_le _ _
theorem low_falls {L : List T} (h : Falls L) (v : Int) : Falls (lowL v L) := falls_sub List.filter_sublist h
theorem dgr_nn {m : M} (h : m.ok = true) : 0 ≤ dgr m := by have := M.ok_iff.1 h; unfold dgr; omega
theorem low_none {L : List T} (h : Falls L) : lowL 0 L = [] := by
  unfold lowL
  rw [List.filter_eq_nil_iff]
  intro t ht
  have := dgr_nn (h.2 t ht).1
  simp
  omega
theorem low_all {L : List T} (h : okL L = true) : lowL (moL dgr L + 1) L = L := by
  unfold lowL
  rw [List.filter_eq_self]
  intro t ht
  have := moL_ge (q := dgr) h ht
  simp
  omega
theorem part_none {L : List T} (h : okL L = true) {v : Int} (hv : moL dgr L < v ∨ v < 0) : L.filter (fun t => dgr t.m == v) = [] := by
  rw [List.filter_eq_nil_iff]
  intro t ht
  have h1 := moL_ge (q := dgr) h ht
  have h2 := dgr_nn ((okL_falls h).2.2 t ht).1
  simp
  omega
/-! an operator is the sum of its terms -/
theorem take_step {L : List T} (hL : Falls L) {i : Nat} (hi : i < L.length) : addL (L.take i) [L[i]] = L.take (i + 1) := by
  have f1 : Falls (L.take i) := falls_sub (List.take_sublist _ _) hL
  have f3 : Falls (L.take (i + 1)) := falls_sub (List.take_sublist _ _) hL
  have h0 := hL.2 _ (List.getElem_mem hi)
  have f2 : Falls [L[i]] := ⟨by simp, fun t ht => by rw [List.mem_singleton.1 ht]; exact h0⟩
  have a1 := addL_facts f1 f2
  have ht : L.take (i + 1) = L.take i ++ [L[i]] := (List.take_append_getElem hi).symm
  refine falls_one a1.1 f3 (fun m _ => ?_)
  rw [a1.2, ht]
  have key : ∀ K : List T, (∀ t ∈ K, t.m ≠ L[i].m) → coef (K ++ [L[i]]) m = (if meqB L[i].m m = true then L[i].c else coef K m) := fun K => by
    induction K with
    | nil =>
      intro _
      show (if meqB L[i].m m = true then L[i].c else 0) = _
      rfl
    | cons t r ih =>
      intro hk
      have ih := ih (fun s hs => hk s (List.mem_cons_of_mem _ hs))
      rw [List.cons_append, coef, coef, ih]
      by_cases h1 : meqB t.m m = true
      · have h2 : ¬ meqB L[i].m m = true := fun e => hk t (List.mem_cons_self ..) (by rw [meqB_iff.1 h1, meqB_iff.1 e])
        rw [if_pos h1, if_neg h2, if_pos h1]
      · rw [if_neg h1, if_neg h1]
  have hne : ∀ t ∈ L.take i, t.m ≠ L[i].m := fun t htk e => by
    obtain ⟨j, hj, rfl⟩ := List.mem_iff_getElem.1 htk
    rw [List.length_take] at hj
    rw [List.getElem_take] at e
    have := (List.pairwise_iff_getElem.1 hL.1) j i (by omega) hi (by omega)
    rw [e] at this
    omega
  rw [key _ hne]
  have r := coef_range f1 m
  show (coef (L.take i) m + (if meqB L[i].m m = true then L[i].c else 0)) % 101 = _
  by_cases h1 : meqB L[i].m m = true
  · have h2 : coef (L.take i) m = 0 := by
      by_cases hz : coef (L.take i) m = 0
      · exact hz
      · obtain ⟨t, ht2, e⟩ := coef_ne_mem hz
        exact absurd (e.trans (meqB_iff.1 h1).symm) (hne t ht2)
    rw [if_pos h1, if_pos h1, h2]
    omega
  · rw [if_neg h1, if_neg h1]
    omega
/-- the sum of the first terms, and whether all went well. -/
def xk (A : List T) : Nat → List T
  | 0 => []
  | i + 1 => (addV (xk A i) (polOf (lf A i).c (lf A i).m)).1
def okb (A : List T) : Nat → Bool
  | 0 => true
  | i + 1 => okb A i && decide ((polOf (lf A i).c (lf A i).m).length = 1)
theorem polOf_case (c : Int) (m : M) : polOf c m = [] ∨ (polOf c m = [⟨c, m⟩] ∧ m.ok = true ∧ 1 ≤ c ∧ c ≤ 100) := by
  unfold polOf
  split
  · rename_i h
    exact .inr ⟨rfl, by simp_all⟩
  · exact .inl rfl
theorem polOf_falls (c : Int) (m : M) : Falls (polOf c m) ∧ (polOf c m).length ≤ 1 := by
  rcases polOf_case c m with h | ⟨h, h1⟩
  · rw [h]; exact ⟨falls_nil, by simp⟩
  · rw [h]; exact ⟨⟨by simp, fun t ht => by rw [List.mem_singleton.1 ht]; exact h1⟩, by simp⟩
theorem xk_facts (A : List T) : ∀ i, i ≤ 300 → Falls (xk A i) ∧ (xk A i).length ≤ i ∧ (addV (xk A i) (polOf (lf A i).c (lf A i).m)) = (xk A (i + 1), true)
  | 0, _ => by
    have h1 := polOf_falls (lf A 0).c (lf A 0).m
    have h2 := addL_len [] (polOf (lf A 0).c (lf A 0).m)
    have e := addV_ok okL_nil (okL_of (by omega) h1.1) (by simp only [List.length_nil] at h2; omega)
    refine ⟨falls_nil, Nat.le_refl _, ?_⟩
    show addV [] _ = ((addV [] _).1, true)
    rw [e]
  | i + 1, hi => by
    obtain ⟨f1, l1, e1⟩ := xk_facts A i (by omega)
    have h0 := polOf_falls (lf A i).c (lf A i).m
    have h1 := polOf_falls (lf A (i + 1)).c (lf A (i + 1)).m
    have ek : xk A (i + 1) = addL (xk A i) (polOf (lf A i).c (lf A i).m) := by
      have e := addV_ok (okL_of (by omega) f1) (okL_of (by omega) h0.1) (by have := addL_len (xk A i) (polOf (lf A i).c (lf A i).m); omega)
      rw [e] at e1
      exact (congrArg Prod.fst e1).symm
    have f2 : Falls (xk A (i + 1)) := by rw [ek]; exact (addL_facts f1 h0.1).1
    have l2 : (xk A (i + 1)).length ≤ i + 1 := by rw [ek]; have := addL_len (xk A i) (polOf (lf A i).c (lf A i).m); omega
    have e := addV_ok (okL_of (by omega) f2) (okL_of (by omega) h1.1) (by have := addL_len (xk A (i + 1)) (polOf (lf A (i + 1)).c (lf A (i + 1)).m); omega)
    refine ⟨f2, l2, ?_⟩
    show addV (xk A (i + 1)) _ = ((addV (xk A (i + 1)) _).1, true)
    rw [e]
theorem xk_take {A : List T} (h : okL A = true) (hn : A.length ≤ 200) : ∀ i, i ≤ A.length → xk A i = A.take i ∧ okb A i = true
  | 0, _ => ⟨by simp [xk], rfl⟩
  | i + 1, hi => by
    obtain ⟨h1, h2⟩ := xk_take h hn i (by omega)
    have hl := okL_falls h
    have hil : i < A.length := by omega
    have hr := hl.2.2 _ (List.getElem_mem hil)
    have hp : polOf (lf A i).c (lf A i).m = [A[i]] := by
      rw [lf_eq hil]
      rcases polOf_case (A[i]).c (A[i]).m with h3 | ⟨h3, _⟩
      · exfalso
        unfold polOf at h3
        rw [if_pos (by simp_all)] at h3
        cases h3
      · exact h3
    have h4 := (xk_facts A i (by omega)).2.2
    have f1 : Falls (A.take i) := falls_sub (List.take_sublist _ _) hl.2
    have f2 : Falls [A[i]] := ⟨by simp, fun t ht => by rw [List.mem_singleton.1 ht]; exact hr⟩
    have h5 := take_step hl.2 hil
    have h6 : (A.take (i + 1)).length ≤ 400 := by rw [List.length_take]; omega
    rw [h1, hp, addV_ok (okL_of (by rw [List.length_take]; omega) f1) (okL_of (by simp) f2) (by rw [h5]; exact h6), h5] at h4
    refine ⟨(congrArg Prod.fst h4).symm, ?_⟩
    rw [okb, h2, hp]
    rfl
theorem polOk_law (A : List T) (hl : A.length ≤ 200) : (okL A == (okb A A.length && sq (xk A A.length) A)) = true := by
  cases h : okL A
  · cases h1 : okb A A.length && sq (xk A A.length) A
    · rfl
    · exfalso
      rw [Bool.and_eq_true] at h1
      have h2 := sq_iff.1 h1.2
      have h3 := xk_facts A A.length (by omega)
      rw [h2] at h3
      rw [okL_of (by omega) h3.1] at h
      cases h
  · obtain ⟨h1, h2⟩ := xk_take h hl A.length (Nat.le_refl _)
    rw [h1, h2, List.take_length, sq_same]
    rfl
end Go.Proofs.YtnfgiplgkobnlaaGreatDoor
namespace Go.Proofs.YtnfgiplgkobnlaaGreatDoor
open Go.RowKit
set_option linter.unusedVariables false

/-- a factor. -/
def fpw (c : UInt8) (n : Int) : List UInt8 := if n ≤ 0 then [] else if n = 1 then [c] else c :: Lib.decDigits n.toNat
def ltr : Nat → UInt8
  | 0 => 120
  | 1 => 121
  | 2 => 100
  | _ => 101
/-- the first factors. -/
def txTo (m : M) : Nat → List UInt8
  | 0 => []
  | k + 1 => txTo m k ++ fpw (ltr k) (cnt m.x m.y m.d m.e k)
def monS (m : M) : List UInt8 := txTo m 4
def monT (m : M) : List UInt8 := if M.ok m = true then (if monS m = [] then [49] else monS m) else []
theorem monS_is (m : M) : monS m = fpw 120 m.x ++ fpw 121 m.y ++ fpw 100 m.d ++ fpw 101 m.e := by
  unfold monS txTo txTo txTo txTo txTo
  simp [ltr, cnt]
theorem dec_one {n : Nat} (h : n < 10) : Lib.decDigits n = [UInt8.ofNat (48 + n)] := by
  rw [Lib.decDigits, dif_pos h]
theorem dec_more {n : Nat} (h : ¬ n < 10) : Lib.decDigits n = Lib.decDigits (n / 10) ++ [UInt8.ofNat (48 + n % 10)] := by
  rw [Lib.decDigits, dif_neg h]
theorem dec_len2 {n : Nat} (h : n < 100) : (Lib.decDigits n).length ≤ 2 := by
  by_cases h1 : n < 10
  · rw [dec_one h1]; simp
  · rw [dec_more h1, dec_one (by omega)]; simp
theorem dec_len4 {n : Nat} (h : n < 10000) : (Lib.decDigits n).length ≤ 4 := by
  by_cases h1 : n < 10
  · rw [dec_one h1]; simp
  · rw [dec_more h1]
    by_cases h2 : n / 10 < 10
    · rw [dec_one h2]; simp
    · rw [dec_more h2]
      have := dec_len2 (n := n / 10 / 10) (by omega)
      simp
      omega
theorem dec_ne (n : Nat) : Lib.decDigits n ≠ [] := by
  by_cases h1 : n < 10
  · rw [dec_one h1]; simp
  · rw [dec_more h1]; simp
theorem fpw_len {c : UInt8} {n : Int} (h : n ≤ 15) : (fpw c n).length ≤ 3 := by
  unfold fpw
  split
  · simp
  · split
    · simp
    · have := dec_len2 (n := n.toNat) (by omega)
      simp
      omega
theorem fpw_zero (c : UInt8) : fpw c 0 = [] := rfl
theorem fpw_one (c : UInt8) : fpw c 1 = [c] := rfl
theorem fpw_more {c : UInt8} {n : Nat} (h : 2 ≤ n) : fpw c (n : Int) = c :: Lib.decDigits n := by
  unfold fpw
  rw [if_neg (by omega), if_neg (by omega), Int.toNat_natCast]
theorem txTo_len {m : M} (h : M.ok m = true) : ∀ k, (txTo m k).length ≤ 3 * k
  | 0 => by simp [txTo]
  | k + 1 => by
    have h1 := txTo_len h k
    have h2 : (fpw (ltr k) (cnt m.x m.y m.d m.e k)).length ≤ 3 := fpw_len (by
      obtain ⟨x1, x2, y1, y2, d1, d2, e1, e2⟩ := M.ok_iff.1 h
      unfold cnt
      split <;> assumption)
    unfold txTo
    simp
    omega
theorem monT_no {m : M} (h : M.ok m = false) : monT m = [] := by unfold monT; rw [if_neg (by rw [h]; simp)]
theorem monT_one {m : M} (h : M.ok m = true) (h0 : monS m = []) : monT m = [49] := by unfold monT; rw [if_pos h, if_pos h0]
theorem monT_is {m : M} (h : M.ok m = true) (h0 : monS m ≠ []) : monT m = monS m := by unfold monT; rw [if_pos h, if_neg h0]
/-- digits that are written from behind. -/
def dcat (k : Nat) (out : List UInt8) : List UInt8 := (if k = 0 then [] else Lib.decDigits k) ++ out
theorem dcat_step {k : Nat} (h : 0 < k) (out : List UInt8) : dcat (k / 10) (UInt8.ofNat (48 + k % 10) :: out) = dcat k out := by
  unfold dcat
  rw [if_neg (show k ≠ 0 by omega)]
  by_cases h1 : k < 10
  · rw [if_pos (by omega), dec_one h1, show k % 10 = k by omega]; rfl
  · rw [if_neg (by omega), dec_more h1]; simp
theorem dcat_zero (out : List UInt8) : dcat 0 out = out := by unfold dcat; simp
theorem dcat_len (k : Nat) (out : List UInt8) : out.length ≤ (dcat k out).length := by unfold dcat; simp
theorem dcat_start {k : Nat} (h : 0 < k) : dcat k [] = Lib.decDigits k := by unfold dcat; rw [if_neg (by omega)]; simp
end Go.Proofs.YtnfgiplgkobnlaaGreatDoor
namespace Go.Proofs.YtnfgiplgkobnlaaGreatDoor
open Go.Shelf Go.RowKit
set_option linter.unusedVariables false

def dcD (c : Int) : List UInt8 := Lib.decDigits c.toNat
/-- a term's text. -/
def trmT (t : T) : List UInt8 := if t.m.x = 0 ∧ t.m.y = 0 ∧ t.m.d = 0 ∧ t.m.e = 0 then dcD t.c else if t.c = 1 then monT t.m else dcD t.c ++ monT t.m
def jnT (f : Nat → T) : Nat → List UInt8
  | 0 => []
  | k + 1 => (if k = 0 then [] else jnT f k ++ [43]) ++ trmT (f k)
def polT (n : Nat) (f : Nat → T) : List UInt8 := if polOk n f = true then (if n = 0 then [48] else jnT f n) else []
theorem polT_no {n : Nat} {f : Nat → T} (h : polOk n f = false) : polT n f = [] := by unfold polT; rw [if_neg (by rw [h]; simp)]
theorem polT_zero {n : Nat} {f : Nat → T} (h : polOk n f = true) (h0 : n = 0) : polT n f = [48] := by unfold polT; rw [if_pos h, if_pos h0]
theorem polT_is {n : Nat} {f : Nat → T} (h : polOk n f = true) (h0 : n ≠ 0) : polT n f = jnT f n := by unfold polT; rw [if_pos h, if_neg h0]
theorem okAt_is {f : Nat → T} {i : Nat} (h : okAt f i = true) : (1 ≤ (f i).c ∧ (f i).c ≤ 100) ∧ (f i).m.ok = true := by
  unfold okAt at h
  simp only [Bool.and_eq_true, decide_eq_true_eq] at h
  exact h.1
theorem polOk_is {n : Nat} {f : Nat → T} (h : polOk n f = true) : n ≤ 400 ∧ ∀ i, i < n → (1 ≤ (f i).c ∧ (f i).c ≤ 100) ∧ (f i).m.ok = true := by
  have h' := of_decide_eq_true h
  exact ⟨h'.1, fun i hi => okAt_is (h'.2 i hi)⟩
theorem dcD_len {c : Int} (h : c ≤ 100) : (dcD c).length ≤ 4 := dec_len4 (by omega)
theorem monT_len {m : M} (h : M.ok m = true) : (monT m).length ≤ 12 := by
  unfold monT
  rw [if_pos h]
  split
  · simp
  · have := txTo_len h 4
    unfold monS
    omega
theorem trmT_len {t : T} (hc : t.c ≤ 100) (h : M.ok t.m = true) : (trmT t).length ≤ 16 := by
  have h1 := dcD_len hc
  have h2 := monT_len h
  unfold trmT
  split
  · omega
  · split
    · omega
    · rw [List.length_append]; omega
theorem jnT_len {f : Nat → T} : ∀ k, (∀ i, i < k → (1 ≤ (f i).c ∧ (f i).c ≤ 100) ∧ (f i).m.ok = true) → (jnT f k).length ≤ 17 * k
  | 0, _ => by simp [jnT]
  | k + 1, h => by
    have h1 := jnT_len k (fun i hi => h i (by omega))
    have h2 := trmT_len (h k (by omega)).1.2 (h k (by omega)).2
    unfold jnT
    rw [List.length_append]
    split
    · simp; omega
    · rw [List.length_append]; simp; omega
theorem fpw_head {c : UInt8} {n : Int} (h : 1 ≤ n) : ∃ r, fpw c n = c :: r := by
  unfold fpw
  rw [if_neg (by omega)]
  split
  · exact ⟨[], rfl⟩
  · exact ⟨_, rfl⟩
theorem fpw_nil {c : UInt8} {n : Int} (h : n ≤ 0) : fpw c n = [] := by unfold fpw; rw [if_pos h]
/-- a monomial but 1 has a text that opens with a letter. -/
theorem monS_head {m : M} (h : M.ok m = true) (h0 : ¬ (m.x = 0 ∧ m.y = 0 ∧ m.d = 0 ∧ m.e = 0)) : ∃ c r, monS m = c :: r ∧ (c = 120 ∨ c = 121 ∨ c = 100 ∨ c = 101) := by
  obtain ⟨x1, x2, y1, y2, d1, d2, e1, e2⟩ := M.ok_iff.1 h
  rw [monS_is]
  by_cases hx : 1 ≤ m.x
  · obtain ⟨r, hr⟩ := fpw_head (c := 120) hx
    exact ⟨120, _, by rw [hr]; rfl, .inl rfl⟩
  rw [fpw_nil (c := 120) (by omega), List.nil_append]
  by_cases hy : 1 ≤ m.y
  · obtain ⟨r, hr⟩ := fpw_head (c := 121) hy
    exact ⟨121, _, by rw [hr]; rfl, .inr (.inl rfl)⟩
  rw [fpw_nil (c := 121) (by omega), List.nil_append]
  by_cases hd : 1 ≤ m.d
  · obtain ⟨r, hr⟩ := fpw_head (c := 100) hd
    exact ⟨100, _, by rw [hr]; rfl, .inr (.inr (.inl rfl))⟩
  rw [fpw_nil (c := 100) (by omega), List.nil_append]
  by_cases he : 1 ≤ m.e
  · obtain ⟨r, hr⟩ := fpw_head (c := 101) he
    exact ⟨101, _, hr, .inr (.inr (.inr rfl))⟩
  · exact absurd ⟨by omega, by omega, by omega, by omega⟩ h0
theorem monT_not1 {m : M} (h : M.ok m = true) (h0 : ¬ (m.x = 0 ∧ m.y = 0 ∧ m.d = 0 ∧ m.e = 0)) : monT m ≠ [49] ∧ monT m ≠ [] := by
  obtain ⟨c, r, e, hc⟩ := monS_head h h0
  rw [monT_is h (by rw [e]; simp), e]
  refine ⟨fun q => ?_, by simp⟩
  rw [List.cons.injEq] at q
  rcases hc with rfl | rfl | rfl | rfl <;> exact absurd q.1 (by decide)
theorem monT_1 : monT ⟨0, 0, 0, 0⟩ = [49] := by decide +kernel
/-- joined texts. -/
theorem joinTail_snoc (sep : List UInt8) (r : List (List UInt8)) (y : List UInt8) : Lib.joinTail sep (r ++ [y]) = Lib.joinTail sep r ++ sep ++ y := by
  unfold Lib.joinTail
  simp
theorem join_snoc (sep : List UInt8) (l : List (List UInt8)) (y : List UInt8) : Lib.join (l ++ [y]) sep = (if l.length = 0 then [] else Lib.join l sep ++ sep) ++ y := by
  cases l with
  | nil => simp [Lib.join_one]
  | cons x r => rw [List.cons_append, Lib.join_cons, Lib.join_cons, joinTail_snoc, if_neg (by simp)]; simp
def txs (f : Nat → T) (k : Nat) : List (List UInt8) := (List.range k).map fun i => trmT (f i)
theorem txs_len (f : Nat → T) (k : Nat) : (txs f k).length = k := by simp [txs]
theorem txs_succ (f : Nat → T) (k : Nat) : txs f (k + 1) = txs f k ++ [trmT (f k)] := by simp [txs, List.range_succ]
theorem join_txs (f : Nat → T) : ∀ k, Lib.join (txs f k) [43] = jnT f k
  | 0 => by simp [txs, jnT, Lib.join_nil]
  | k + 1 => by
    rw [txs_succ, join_snoc, txs_len, join_txs f k]
    rfl
/-! the library's table -/
abbrev Tb (w : World) : Prop := Lib.TabIs Tryz.prog w "internal/strconv.uint64pow10" .u64 Lib.pow10Tab
theorem Tb.below {w w' : World} (h : Tb w) (hb : Below w.heap.size w w') : Tb w' := Lib.tabBelow_of_tabIs h w' hb
shelf_lay LaysM.n171 Nm 171 at Tryz as layM171
theorem itoaAll (n : Nat) (hn : n ≤ 100) (w : World) (h : Tb w) : Calls Tryz.prog 42 #[.int .i64 (n : Int)] w fun e w' => e = .returned (.string ⟨(Lib.decDigits n).toArray⟩) ∧ Below w.heap.size w w' := by
  refine (Any.strconv_Itoa layM171 (n : Int) (by omega) (by omega) w h).mono ?_
  rintro e w' ⟨rfl, k, os, rfl⟩
  refine ⟨?_, ?_⟩
  · unfold Lib.itoa
    rw [if_neg (by omega), Int.toNat_natCast]
  · exact Lib.below_grow _ _ (Nat.le_refl _) _ _
def lay156_ren : Go.Shelf.Ren := ⟨fun | 0 => 0 | 1 => 1 | 2 => 2 | 103 => 102 | 122 => 89 | 125 => 132 | 128 => 154 | 129 => 136 | 143 => 77 | 156 => 22 | 165 => 44 | 166 => 45 | 167 => 71 | 169 => 46 | 170 => 72 | 171 => 42 | 172 => 51 | 197 => 76 | 205 => 125 | 206 => 144 | 210 => 126 | 215 => 112 | 217 => 119 | 219 => 96 | 224 => 121 | 225 => 120 | 240 => 73 | 241 => 74 | 243 => 69 | 244 => 78 | 245 => 79 | 246 => 92 | 247 => 97 | 260 => 95 | 266 => 140 | 267 => 122 | 276 => 93 | 277 => 94 | 279 => 98 | 280 => 99 | 281 => 100 | 282 => 101 | 283 => 115 | 284 => 116 | 285 => 117 | 286 => 118 | 287 => 123 | 314 => 141 | 316 => 124 | 317 => 135 | 318 => 137 | 319 => 138 | 320 => 139 | 321 => 142 | 322 => 143 | 329 => 160 | 330 => 161 | 337 => 157 | 338 => 158 | 347 => 165 | 348 => 166 | 349 => 167 | 350 => 168 | 351 => 169 | 352 => 170 | 353 => 171 | 354 => 172 | 355 => 173 | 356 => 174 | 357 => 175 | 358 => 176 | 359 => 177 | 360 => 178 | 361 => 179 | 362 => 180 | 363 => 183 | 364 => 181 | 365 => 182 | 366 => 184 | 367 => 194 | n => n, fun | 0 => 0 | 1 => 1 | 2 => 2 | 3 => 3 | 4 => 4 | 5 => 5 | 6 => 6 | 7 => 7 | 8 => 8 | 9 => 9 | 10 => 10 | 11 => 11 | 12 => 12 | 13 => 13 | 14 => 14 | 15 => 15 | 16 => 16 | 17 => 17 | 18 => 18 | 19 => 19 | 20 => 20 | 21 => 21 | 22 => 175 | 24 => 137 | 25 => 138 | 26 => 88 | 27 => 113 | 28 => 68 | 31 => 43 | 37 => 22 | 38 => 32 | 43 => 104 | 46 => 150 | 47 => 164 | 51 => 167 | 52 => 184 | 53 => 144 | 54 => 145 | 55 => 154 | 67 => 47 | 68 => 54 | 69 => 83 | 70 => 72 | 71 => 73 | 72 => 74 | 73 => 75 | 74 => 76 | 75 => 77 | 76 => 78 | 77 => 79 | 78 => 108 | 80 => 80 | 81 => 59 | 83 => 57 | 84 => 127 | 85 => 132 | 86 => 133 | 104 => 110 | 105 => 111 | 106 => 112 | 108 => 159 | 111 => 89 | 114 => 60 | 119 => 149 | 127 => 109 | 128 => 114 | 131 => 182 | 137 => 151 | 138 => 152 | 139 => 153 | 143 => 172 | 144 => 173 | 145 => 174 | 146 => 169 | 151 => 170 | 164 => 128 | 165 => 129 | 166 => 130 | 167 => 131 | 168 => 134 | 169 => 135 | 170 => 136 | 171 => 143 | 172 => 146 | 173 => 147 | 174 => 148 | 175 => 155 | 176 => 156 | 182 => 177 | 183 => 178 | 209 => 157 | 210 => 158 | 211 => 165 | 212 => 166 | 213 => 168 | 214 => 171 | 218 => 185 | 219 => 186 | 220 => 187 | 222 => 189 | 228 => 193 | 229 => 86 | 232 => 191 | 233 => 192 | 238 => 195 | 239 => 196 | 240 => 197 | 241 => 198 | 242 => 199 | 243 => 200 | 244 => 201 | 245 => 202 | 246 => 203 | 247 => 204 | 248 => 205 | 249 => 206 | n => n, fun n => n⟩
theorem lay156 : Lays.n156 Tryz.prog lay156_ren where
  mixed := by kernel_rfl
  f156 := Tryz.func22.trans (congrArg some (by kernel_rfl))
  f165 := Tryz.func44.trans (congrArg some (by kernel_rfl))
  f166 := Tryz.func45.trans (congrArg some (by kernel_rfl))
  f169 := Tryz.func46.trans (congrArg some (by kernel_rfl))
  f240 := Tryz.func73.trans (congrArg some (by kernel_rfl))
  f241 := Tryz.func74.trans (congrArg some (by kernel_rfl))
  f276 := Tryz.func93.trans (congrArg some (by kernel_rfl))
  f277 := Tryz.func94.trans (congrArg some (by kernel_rfl))
  t0 := Tryz.underlying0
  a0 := Tryz.isAgg0
  z0 := Tryz.sizeOf0
  v0 := Tryz.zeroValue0
  t3 := Tryz.underlying3
  a3 := Tryz.isAgg3
  z3 := Tryz.sizeOf3
  v3 := Tryz.zeroValue3
  t4 := Tryz.underlying4
  a4 := Tryz.isAgg4
  z4 := Tryz.sizeOf4
  v4 := Tryz.zeroValue4
  t9 := Tryz.underlying9
  a9 := Tryz.isAgg9
  z9 := Tryz.sizeOf9
  v9 := Tryz.zeroValue9
  t20 := Tryz.underlying20
  a20 := Tryz.isAgg20
  z20 := Tryz.sizeOf20
  v20 := Tryz.zeroValue20
  t31 := Tryz.underlying43
  a31 := Tryz.isAgg43
  z31 := Tryz.sizeOf43
  v31 := Tryz.zeroValue43
  t37 := Tryz.underlying22
  a37 := Tryz.isAgg22
  z37 := Tryz.sizeOf22
  v37 := Tryz.zeroValue22
  t70 := Tryz.underlying72
  a70 := Tryz.isAgg72
  z70 := Tryz.sizeOf72
  v70 := Tryz.zeroValue72
  t72 := Tryz.underlying74
  a72 := Tryz.isAgg74
  z72 := Tryz.sizeOf74
  v72 := Tryz.zeroValue74
  t75 := Tryz.underlying77
  a75 := Tryz.isAgg77
  z75 := Tryz.sizeOf77
  v75 := Tryz.zeroValue77
  t76 := Tryz.underlying78
  a76 := Tryz.isAgg78
  z76 := Tryz.sizeOf78
  v76 := Tryz.zeroValue78
  t127 := Tryz.underlying109
  a127 := Tryz.isAgg109
  z127 := Tryz.sizeOf109
  v127 := Tryz.zeroValue109
  t164 := Tryz.underlying128
  a164 := Tryz.isAgg128
  z164 := Tryz.sizeOf128
  v164 := Tryz.zeroValue128
theorem extra156 : Builder.Extra Tryz.prog lay156_ren where
  sizeBuilder := by kernel_rfl
  liesBuilder := by kernel_rfl
  t5 := Tryz.underlying5
  a5 := Tryz.isAgg5
  z5 := Tryz.sizeOf5
  v5 := Tryz.zeroValue5
  infoByte := by kernel_rfl
  cellsByte := by kernel_rfl
  sizeByte := by kernel_rfl
  neB5 := by decide
theorem joinI (bk c : Nat) (xs : List ByteArray) (w : World) (hcells : ∀ (j : Nat) x, xs[j]? = some x → w.cell? ⟨bk, 0 + j, none⟩ = some (.string x)) (hbk : bk < w.heap.size) (hN : xs.length ≤ 140737488355328) (hcap : xs.length ≤ c) (hlen : (Lib.join (xs.map (·.data.toList)) [43]).length ≤ 140737488355328) :
    Calls Tryz.prog 22 #[.slice (some ⟨bk, 0, none⟩) xs.length c, .string ⟨#[43]⟩] w fun e w' => e = .returned (.string ⟨(Lib.join (xs.map (·.data.toList)) [43]).toArray⟩) ∧ Below w.heap.size w w' :=
  Any.strings_Join lay156 extra156 bk 0 c xs ⟨#[43]⟩ w hcells hbk hN hcap hlen
end Go.Proofs.YtnfgiplgkobnlaaGreatDoor
