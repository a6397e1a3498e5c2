/-
  Lists of terms that fall: their sums, and what is put to them.
  Operators as lists: sums, differences, so many times, the most that is counted.
  Linear maps of what is counted from two sides, over the field of 101 numbers; a slope goes past a power of its time.
-/
import Derived.Test.YtbkighpmkadmmaaHai
import Derived.Test.YtbkighpmkadmmaaHam
import Derived.Test.YtbkighpmkadmmaaHaf
import Derived.Test.YtbkighpmkadmmaaHaa
namespace Go.Proofs.Ytbkighpmkadmmaa
open Go.RowKit
set_option linter.unusedVariables false

theorem fromC_shift (f : Nat → T) (m : M) : ∀ (u i : Nat), fromC f u (i + 1) m = fromC (fun j => f (j + 1)) u i m
  | 0, _ => rfl
  | u + 1, i => by rw [fromC, fromC, fromC_shift f m u (i + 1)]
theorem fromC_lf (m : M) : ∀ L : List T, fromC (lf L) L.length 0 m = coef L m
  | [] => rfl
  | t :: r => by
    have e : (fun j => lf (t :: r) (j + 1)) = lf r := by funext j; simp [lf]
    have e0 : lf (t :: r) 0 = t := rfl
    rw [List.length_cons, fromC, e0, coef, fromC_shift, e, fromC_lf m r]
theorem fl_lf {L : List T} (h : Falls L) : Fl (lf L) L.length := by
  have at_ : ∀ i (hi : i < L.length), lf L i = L[i] := fun i hi => by unfold lf; rw [List.getD_eq_getElem?_getD, List.getElem?_eq_getElem hi]; rfl
  refine ⟨fun j i hji hi => ?_, fun i hi => ?_⟩
  · rw [at_ i hi, at_ j (by omega)]
    exact (List.pairwise_iff_getElem.1 h.1) j i (by omega) hi hji
  · rw [at_ i hi]
    exact h.2 _ (List.getElem_mem hi)
theorem coef_range {L : List T} (h : Falls L) (m : M) : 0 ≤ coef L m ∧ coef L m ≤ 100 := by
  induction L with
  | nil => simp [coef]
  | cons t r ih =>
    rw [coef]
    split
    · have := h.2 t (List.mem_cons_self ..); omega
    · exact ih h.tail
theorem falls_nil : Falls [] := ⟨List.Pairwise.nil, fun t h => by cases h⟩
/-- the sum of two lists. -/
def addL (K X : List T) : List T := addT (lf K) K.length (lf X) X.length 0 0
theorem addL_facts {K X : List T} (hK : Falls K) (hX : Falls X) : Falls (addL K X) ∧ ∀ m, coef (addL K X) m = (coef K m + coef X m) % 101 := by
  obtain ⟨_, h2, h3⟩ := mrg_facts (fl_lf hK) (fl_lf hX) (K.length - 0 + (X.length - 0)) 0 0 (Nat.le_refl _)
  refine ⟨h2, fun m => (h3 m).trans ?_⟩
  rw [Nat.sub_zero, Nat.sub_zero, fromC_lf, fromC_lf]
theorem putT_facts {L : List T} (hL : Falls L) {c : Int} {m : M} (hm : m.ok = true) (c0 : 0 ≤ c) (c1 : c ≤ 100) : Falls (putT c m L) ∧ ∀ x, coef (putT c m L) x = updC (coef L) m c x := by
  unfold putT
  by_cases hc : c = 0
  · rw [if_pos hc]
    refine ⟨hL, fun x => ?_⟩
    unfold updC
    split
    · rename_i hx
      have := coef_range hL m
      rw [meq_iff.1 hx, hc]
      omega
    · rfl
  · rw [if_neg hc]
    have G : Fl (fun _ => (⟨c, m⟩ : T)) 1 := ⟨fun j i h1 h2 => by omega, fun i hi => ⟨hm, by show 1 ≤ c; omega, c1⟩⟩
    obtain ⟨_, h2, h3⟩ := mrg_facts (fl_lf hL) G (L.length - 0 + (1 - 0)) 0 0 (Nat.le_refl _)
    refine ⟨h2, fun x => (h3 x).trans ?_⟩
    rw [Nat.sub_zero, Nat.sub_zero, fromC_lf]
    show (coef L x + (if meqB m x = true then c else 0)) % 101 = _
    have hr := coef_range hL x
    unfold updC
    by_cases hx : x = m
    · subst hx
      rw [if_pos (meqB_iff.2 rfl), if_pos (meq_iff.2 rfl)]
    · rw [if_neg (fun e => hx (meqB_iff.1 e).symm), if_neg (fun e => hx (meq_iff.1 e))]
      omega
def putAll (xs : List T) (L : List T) : List T := xs.foldl (fun L t => putT t.c t.m L) L
def addAllT (c : M → Int) (xs : List T) : M → Int := xs.foldl (fun c t => updC c t.m t.c) c
/-- terms with a monomial that is ok and a number of the field. -/
def TOK (xs : List T) : Prop := ∀ t ∈ xs, t.m.ok = true ∧ 0 ≤ t.c ∧ t.c ≤ 100
theorem putAll_facts : ∀ (xs : List T) (L : List T), TOK xs → Falls L → Falls (putAll xs L) ∧ coef (putAll xs L) = addAllT (coef L) xs
  | [], L, _, hL => ⟨hL, rfl⟩
  | t :: r, L, hx, hL => by
    have h1 := hx t (List.mem_cons_self ..)
    have h2 := putT_facts hL h1.1 h1.2.1 h1.2.2
    have h3 := putAll_facts r (putT t.c t.m L) (fun s hs => hx s (List.mem_cons_of_mem _ hs)) h2.1
    refine ⟨h3.1, ?_⟩
    show coef (putAll r (putT t.c t.m L)) = addAllT (updC (coef L) t.m t.c) r
    rw [h3.2, funext h2.2]
def mulO : Option (List T) → List T × Bool
  | some K => (K, true)
  | none => ([], false)
theorem cok_falls {L : List T} (h : Falls L) : Cok L := fun t ht => by have := h.2 t ht; omega
/-- terms that can be multiplied. -/
def Good (f : Nat → T) (n : Nat) : Prop := ∀ i, i < n → (f i).m.ok = true ∧ 0 ≤ (f i).c ∧ (f i).c ≤ 100
theorem good_ok {n : Nat} {f : Nat → T} (h : polOk n f = true) : n ≤ 400 ∧ Good f n := by
  have hp := h
  simp only [polOk, decide_eq_true_eq] at hp
  refine ⟨hp.1, fun i hi => ?_⟩
  have := (fl_of_ok h).2 i hi
  exact ⟨this.1, by omega, this.2.2⟩
end Go.Proofs.Ytbkighpmkadmmaa
namespace Go.Proofs.Ytbkighpmkadmmaa
open Go.RowKit
set_option linter.unusedVariables false

/-- a slice of terms, as a list. -/
def RL (w : World) (a : Option Addr) (c : Nat) (L : List T) : Prop := Rd w a L.length c (lf L)
theorem RL.below {w w' : World} {a : Option Addr} {c : Nat} {L : List T} (h : RL w a c L) (hb : Below w.heap.size w w') : RL w' a c L := Rd.below h hb
theorem lf_eq {L : List T} {i : Nat} (h : i < L.length) : lf L i = L[i] := by unfold lf; rw [List.getD_eq_getElem?_getD, List.getElem?_eq_getElem h]; rfl
theorem list_of {w : World} {a : Option Addr} {n cap : Nat} {f : Nat → T} (h : Rd w a n cap f) : ∃ L : List T, n = L.length ∧ RL w a cap L := by
  refine ⟨(List.range n).map f, by simp, ?_⟩
  have e : ((List.range n).map f).length = n := by simp
  have hf : ∀ i, i < n → lf ((List.range n).map f) i = f i := fun i hi => by rw [lf_eq (by simpa using hi)]; simp
  unfold RL
  rw [e]
  refine ⟨h.1, h.2.1, ?_⟩
  rcases h.2.2 with h0 | ⟨b, off, he, hlt, hc⟩
  · exact .inl h0
  · exact .inr ⟨b, off, he, hlt, fun i hi => by rw [hf i hi]; exact hc i hi⟩
def okL (L : List T) : Bool := polOk L.length (lf L)
theorem okL_falls {L : List T} (h : okL L = true) : L.length ≤ 400 ∧ Falls L := by
  have hF := fl_of_ok h
  have hl : L.length ≤ 400 := by unfold okL at h; simp only [polOk, decide_eq_true_eq] at h; exact h.1
  refine ⟨hl, List.pairwise_iff_getElem.2 (fun i j hi hj hij => ?_), fun t ht => ?_⟩
  · have := hF.1 i j hij hj
    rwa [lf_eq hi, lf_eq hj] at this
  · obtain ⟨i, hi, rfl⟩ := List.mem_iff_getElem.1 ht
    have := hF.2 i hi
    rwa [lf_eq hi] at this
theorem okL_of {L : List T} (hl : L.length ≤ 400) (h : Falls L) : okL L = true := by
  unfold okL polOk
  rw [decide_eq_true_eq]
  refine ⟨hl, fun i hi => ?_⟩
  have h1 := h.2 (L[i]) (List.getElem_mem hi)
  simp only [okAt, Bool.and_eq_true, Bool.or_eq_true, decide_eq_true_eq]
  rw [lf_eq hi]
  refine ⟨⟨h1.2, h1.1⟩, ?_⟩
  by_cases h0 : i = 0
  · exact .inl h0
  · refine .inr ?_
    have hi1 : i - 1 < L.length := by omega
    rw [lf_eq hi1]
    exact (ord_pos (h.2 _ (List.getElem_mem hi1)).1 h1.1).2 ((List.pairwise_iff_getElem.1 h.1) (i - 1) i hi1 hi (by omega))
theorem okL_nil : okL [] = true := okL_of (by simp) falls_nil
/-! sums -/
theorem addL_len (L K : List T) : (addL L K).length ≤ L.length + K.length := by have := addT_len (lf L) L.length (lf K) K.length 0 0; simpa [addL] using this
theorem coef_nil (m : M) : coef [] m = 0 := rfl
/-! so many times -/
def scL (c : Int) (L : List T) : List T := scT c (lf L) L.length
theorem scL_len (c : Int) (L : List T) : (scL c L).length = L.length := scT_len _ _ _
theorem scL_map (c : Int) (L : List T) : scL c L = L.map (fun t => ⟨c * t.c % 101, t.m⟩) := by
  refine List.ext_getElem (by simp [scL_len]) (fun i h1 h2 => ?_)
  have hi : i < L.length := by rw [scL_len] at h1; exact h1
  rw [← lf_eq h1, scL, lf_scT _ _ _ _ hi, lf_eq hi]
  simp
theorem scL_falls {c : Int} {L : List T} (c1 : 1 ≤ c) (c2 : c ≤ 100) (h : Falls L) : Falls (scL c L) := by
  rw [scL_map]
  refine ⟨by rw [List.pairwise_map]; exact h.1, fun t ht => ?_⟩
  obtain ⟨s, hs, rfl⟩ := List.mem_map.1 ht
  have hr := h.2 s hs
  have hne := fMul_ne (a := c) (b := s.c) (by omega) (by omega) (by omega) (by omega)
  rw [fMul_in (by omega) c2 (by omega) hr.2.2] at hne
  exact ⟨hr.1, by show 1 ≤ c * s.c % 101; omega, by show c * s.c % 101 ≤ 100; omega⟩
theorem scL_coef (c : Int) (m : M) : ∀ L : List T, coef (scL c L) m = c * coef L m % 101 := by
  intro L
  rw [scL_map]
  induction L with
  | nil => simp [coef]
  | cons t r ih =>
    rw [List.map_cons, coef, coef]
    split
    · rfl
    · exact ih
/-! differences -/
def subL (L K : List T) : List T := addL L (scL 100 K)
def subV (L K : List T) : List T × Bool := polSub (lf L) L.length (lf K) K.length
theorem subT_is (L K : List T) : addT (lf L) L.length (negT (lf K) K.length) K.length 0 0 = subL L K := by
  unfold subL addL
  rw [scL_len]
  rfl
theorem subV_ok {L K : List T} (hL : okL L = true) (hK : okL K = true) (h : (subL L K).length ≤ 400) : subV L K = (subL L K, true) := by
  unfold subV polSub
  rw [subT_is]
  exact if_pos ⟨hL, hK, h⟩
theorem subV_case (L K : List T) : subV L K = ([], false) ∨ (okL L = true ∧ okL K = true ∧ (subL L K).length ≤ 400 ∧ subV L K = (subL L K, true)) := by
  by_cases h : okL L = true ∧ okL K = true ∧ (subL L K).length ≤ 400
  · exact .inr ⟨h.1, h.2.1, h.2.2, subV_ok h.1 h.2.1 h.2.2⟩
  · refine .inl ?_
    unfold subV polSub
    rw [subT_is]
    exact if_neg h
theorem subL_len (L K : List T) : (subL L K).length ≤ L.length + K.length := by have := addL_len L (scL 100 K); rw [scL_len] at this; exact this
theorem subL_facts {L K : List T} (hL : Falls L) (hK : Falls K) : Falls (subL L K) ∧ ∀ m, coef (subL L K) m = (coef L m + 100 * coef K m % 101) % 101 := by
  have h := addL_facts hL (scL_falls (c := 100) (by omega) (by omega) hK)
  refine ⟨h.1, fun m => ?_⟩
  show coef (addL L (scL 100 K)) m = _
  rw [h.2, scL_coef]
theorem sub_self {L : List T} (hL : Falls L) : subL L L = [] := by
  have h1 := subL_facts hL hL
  refine falls_one h1.1 falls_nil (fun m _ => ?_)
  have r1 := coef_range hL m
  rw [h1.2, coef_nil]
  omega
theorem sub_nil_iff {L K : List T} (hL : Falls L) (hK : Falls K) : subL L K = [] ↔ L = K := by
  constructor
  · intro h
    have h1 := subL_facts hL hK
    refine falls_one hL hK (fun m _ => ?_)
    have h2 := h1.2 m
    rw [h, coef_nil] at h2
    have r1 := coef_range hL m
    have r2 := coef_range hK m
    omega
  · intro h
    rw [h]
    exact sub_self hK
/-- whether lists are the same, as it is looked at. -/
def sq (L K : List T) : Bool := termsEq L.length (lf L) K.length (lf K)
theorem sq_same (L : List T) : sq L L = true := termsEq_same _ _
theorem sq_iff {L K : List T} : sq L K = true ↔ L = K := by
  constructor
  · intro ht
    simp only [sq, termsEq, decide_eq_true_eq] at ht
    refine List.ext_getElem ht.1 (fun i h1 h2 => ?_)
    have := ht.2 i h1
    rw [lf_eq h1, lf_eq h2] at this
    exact T.eqB_iff.1 this
  · intro h
    rw [h]
    exact sq_same K
end Go.Proofs.Ytbkighpmkadmmaa
namespace Go.Proofs.Ytbkighpmkadmmaa
set_option linter.unusedVariables false

/-- the field of 101 numbers, as residues. -/
abbrev Fq := Fin 101
def zz (a : Int) : Fq := Fin.ofNat 101 (a % 101).toNat
theorem zz_mod (a : Int) : zz (a % 101) = zz a := by unfold zz; rw [Int.emod_emod_of_dvd _ (Int.dvd_refl 101)]
theorem zz_add (a b : Int) : zz (a + b) = zz a + zz b := by
  unfold zz; apply Fin.ext; simp [Fin.val_add]; omega
theorem zz_inj {a b : Int} (ha : 0 ≤ a ∧ a ≤ 100) (hb : 0 ≤ b ∧ b ≤ 100) (h : zz a = zz b) : a = b := by
  unfold zz at h; have := congrArg Fin.val h; simp at this; omega
theorem zz_mul (a b : Int) : zz (a * b) = zz a * zz b := by
  unfold zz; apply Fin.ext; simp [Fin.val_mul]
  have h1 := Int.mul_emod a b 101
  have h2 : ((a % 101).toNat : Int) = a % 101 := by omega
  have h3 : ((b % 101).toNat : Int) = b % 101 := by omega
  have h4 : (((a % 101).toNat * (b % 101).toNat % 101 : Nat) : Int) = (a % 101) * (b % 101) % 101 := by
    rw [Int.natCast_emod, Int.natCast_mul, h2, h3]; rfl
  omega
theorem zz_zero : zz 0 = 0 := rfl
theorem zz_ne {a : Int} (h1 : 1 ≤ a) (h2 : a ≤ 100) : zz a ≠ 0 := fun h => by
  have := zz_inj (a := a) (b := 0) ⟨by omega, h2⟩ ⟨by omega, by omega⟩ h
  omega
/-- sums over a list. -/
def su {α : Type} : List α → (α → Fq) → Fq
  | [], _ => 0
  | t :: r, f => f t + su r f
theorem su_add {α : Type} (f g : α → Fq) : ∀ L : List α, su L (fun t => f t + g t) = su L f + su L g
  | [] => by simp [su]
  | t :: r => by rw [su, su, su, su_add f g r]; grind
theorem su_mul {α : Type} (c : Fq) (f : α → Fq) : ∀ L : List α, su L (fun t => c * f t) = c * su L f
  | [] => by show (0 : Fq) = c * 0; grind
  | t :: r => by rw [su, su, su_mul c f r]; grind
theorem su_zero {α : Type} (f : α → Fq) : ∀ L : List α, (∀ t ∈ L, f t = 0) → su L f = 0
  | [], _ => rfl
  | t :: r, h => by rw [su, su_zero f r (fun s hs => h s (List.mem_cons_of_mem _ hs)), h t (List.mem_cons_self ..)]; rfl
theorem su_congr {α : Type} {f g : α → Fq} : ∀ {L : List α}, (∀ t ∈ L, f t = g t) → su L f = su L g
  | [], _ => rfl
  | t :: r, h => by rw [su, su, su_congr (L := r) (fun s hs => h s (List.mem_cons_of_mem _ hs)), h t (List.mem_cons_self ..)]
theorem su_append {α : Type} (f : α → Fq) : ∀ L K : List α, su (L ++ K) f = su L f + su K f
  | [], K => by simp [su]
  | t :: r, K => by rw [List.cons_append, su, su, su_append f r K]; grind
theorem su_map {α β : Type} (h : α → β) (f : β → Fq) : ∀ L : List α, su (L.map h) f = su L (fun t => f (h t))
  | [] => rfl
  | t :: r => by rw [List.map_cons, su, su, su_map h f r]
theorem su_flat {α β : Type} (h : α → List β) (f : β → Fq) : ∀ L : List α, su (L.flatMap h) f = su L (fun t => su (h t) f)
  | [] => rfl
  | t :: r => by rw [List.flatMap_cons, su_append, su, su_flat h f r]
/-- what is counted from two sides. -/
abbrev Vq := Nat → Nat → Fq
def va (u v : Vq) : Vq := fun n k => u n k + v n k
def vs (c : Fq) (u : Vq) : Vq := fun n k => c * u n k
/-- what is linear. -/
structure Lq where
  f : Vq → Vq
  add : ∀ u v, f (va u v) = va (f u) (f v)
  smul : ∀ c u, f (vs c u) = vs c (f u)
theorem Lq.ext {A B : Lq} (h : ∀ u n k, A.f u n k = B.f u n k) : A = B := by
  have : A.f = B.f := funext fun u => funext fun n => funext fun k => h u n k
  cases A; cases B; cases this; rfl
def v0 : Vq := fun _ _ => 0
theorem Lq.zero (A : Lq) : A.f v0 = v0 := by
  have h := A.smul 0 v0
  have e : vs 0 v0 = v0 := by funext n k; simp [vs, v0]
  rw [e] at h
  rw [h]; funext n k; show 0 * _ = (0 : Fq); grind
namespace Lq
/-- one behind the other: the second one is done first to what is counted. -/
def mul (A B : Lq) : Lq := ⟨fun u => B.f (A.f u), fun u v => by rw [A.add, B.add], fun c u => by rw [A.smul, B.smul]⟩
def sum (A B : Lq) : Lq := ⟨fun u => va (A.f u) (B.f u), fun u v => by rw [A.add, B.add]; funext n k; simp only [va]; grind, fun c u => by rw [A.smul, B.smul]; funext n k; simp only [va, vs]; grind⟩
def sc (c : Fq) (A : Lq) : Lq := ⟨fun u => vs c (A.f u), fun u v => by rw [A.add]; funext n k; simp only [va, vs]; grind, fun d u => by rw [A.smul]; funext n k; simp only [vs]; grind⟩
def one : Lq := ⟨fun u => u, fun _ _ => rfl, fun _ _ => rfl⟩
def nil : Lq := ⟨fun _ => v0, fun u v => by funext n k; simp [va, v0], fun c u => by funext n k; show (0 : Fq) = c * 0; grind⟩
def pow (A : Lq) : Nat → Lq
  | 0 => one
  | n + 1 => mul (pow A n) A
theorem mul_assoc (A B C : Lq) : mul (mul A B) C = mul A (mul B C) := rfl
theorem mul_one (A : Lq) : mul A one = A := rfl
theorem sum_mul (A B C : Lq) : mul (sum A B) C = sum (mul A C) (mul B C) := Lq.ext fun u n k => by show C.f (va _ _) n k = _; rw [C.add]; rfl
theorem mul_sum (A B C : Lq) : mul C (sum A B) = sum (mul C A) (mul C B) := rfl
theorem sc_mul (c : Fq) (A B : Lq) : mul (sc c A) B = sc c (mul A B) := Lq.ext fun u n k => by show B.f (vs _ _) n k = _; rw [B.smul]; rfl
theorem mul_sc (c : Fq) (A B : Lq) : mul A (sc c B) = sc c (mul A B) := rfl
theorem sc_sc (c d : Fq) (A : Lq) : sc c (sc d A) = sc (c * d) A := Lq.ext fun u n k => by show c * (d * _) = c * d * _; grind
theorem sc_one (A : Lq) : sc 1 A = A := Lq.ext fun u n k => by show 1 * _ = _; grind
theorem sc_zero (A : Lq) : sc 0 A = nil := Lq.ext fun u n k => by show 0 * _ = (0 : Fq); grind
theorem sc_sum (c : Fq) (A B : Lq) : sc c (sum A B) = sum (sc c A) (sc c B) := Lq.ext fun u n k => by show c * (_ + _) = c * _ + c * _; grind
theorem sc_add (c d : Fq) (A : Lq) : sc (c + d) A = sum (sc c A) (sc d A) := Lq.ext fun u n k => by show (c + d) * _ = c * _ + d * _; grind
theorem sum_comm (A B : Lq) : sum A B = sum B A := Lq.ext fun u n k => by show _ + _ = _ + _; grind
theorem sum_assoc (A B C : Lq) : sum (sum A B) C = sum A (sum B C) := Lq.ext fun u n k => by show _ + _ + _ = _ + (_ + _); grind
theorem sum_nil (A : Lq) : sum A nil = A := Lq.ext fun u n k => by show _ + (0 : Fq) = _; grind
theorem nil_mul (A : Lq) : mul nil A = nil := Lq.ext fun u n k => by show A.f v0 n k = _; rw [A.zero]; rfl
theorem mul_nil (A : Lq) : mul A nil = nil := rfl
theorem pow_succ' (A : Lq) : ∀ n, pow A (n + 1) = mul A (pow A n)
  | 0 => rfl
  | n + 1 => by show mul (pow A (n + 1)) A = mul A (mul (pow A n) A); rw [pow_succ' A n, mul_assoc]
theorem pow_add (A : Lq) (n : Nat) : ∀ m, pow A (n + m) = mul (pow A n) (pow A m)
  | 0 => rfl
  | m + 1 => by rw [← Nat.add_assoc, pow, pow_add A n m, pow, mul_assoc]
/-- two that commute. -/
def Com (A B : Lq) : Prop := mul A B = mul B A
theorem Com.symm {A B : Lq} (h : Com A B) : Com B A := Eq.symm h
theorem Com.one (A : Lq) : Com A Lq.one := rfl
theorem Com.mul {A B C : Lq} (h1 : Com A B) (h2 : Com A C) : Com A (Lq.mul B C) := by
  unfold Com at *
  rw [← mul_assoc, h1, mul_assoc, h2, mul_assoc]
theorem Com.pow {A B : Lq} (h : Com A B) : ∀ n, Com A (Lq.pow B n)
  | 0 => Com.one A
  | n + 1 => (h.pow n).mul h
theorem Com.pows {A B : Lq} (h : Com A B) (m n : Nat) : Com (Lq.pow A m) (Lq.pow B n) := ((h.pow n).symm.pow m).symm
/-- a sum of so many. -/
def sumN (f : Nat → Lq) : Nat → Lq
  | 0 => nil
  | n + 1 => sum (sumN f n) (f n)
theorem sumN_sum (f g : Nat → Lq) : ∀ n, sumN (fun i => sum (f i) (g i)) n = sum (sumN f n) (sumN g n)
  | 0 => (sum_nil nil).symm
  | n + 1 => by rw [sumN, sumN, sumN, sumN_sum f g n]; exact Lq.ext fun u n k => by show _ + _ + (_ + _) = _ + _ + (_ + _); grind
theorem mul_sumN (A : Lq) (f : Nat → Lq) : ∀ n, mul A (sumN f n) = sumN (fun i => mul A (f i)) n
  | 0 => rfl
  | n + 1 => by rw [sumN, mul_sum, mul_sumN A f n]; rfl
theorem sumN_congr {f g : Nat → Lq} : ∀ {n}, (∀ i, i < n → f i = g i) → sumN f n = sumN g n
  | 0, _ => rfl
  | n + 1, h => by rw [sumN, sumN, sumN_congr (n := n) (fun i hi => h i (by omega)), h n (by omega)]
theorem sumN_head (f : Nat → Lq) : ∀ n, sumN f (n + 1) = sum (f 0) (sumN (fun i => f (i + 1)) n)
  | 0 => by rw [sumN, sumN, sumN, sum_comm]
  | n + 1 => by rw [sumN, sumN_head f n, sumN, sum_assoc]
theorem sumN_cut {f : Nat → Lq} {m n : Nat} (h : m ≤ n) (h0 : ∀ i, m ≤ i → f i = nil) : sumN f n = sumN f m := by
  induction n with
  | zero => rw [show m = 0 by omega]
  | succ n ih =>
    by_cases e : m = n + 1
    · rw [e]
    · rw [sumN, h0 n (by omega), sum_nil, ih (by omega)]
end Lq
/-- ways to choose, falling factors. -/
def chN : Nat → Nat → Nat
  | _, 0 => 1
  | 0, _ + 1 => 0
  | n + 1, k + 1 => chN n (k + 1) + chN n k
def faN (c : Nat) : Nat → Nat
  | 0 => 1
  | i + 1 => faN c i * (c - i)
theorem chN_high : ∀ n k, n < k → chN n k = 0
  | 0, k + 1, _ => by rw [chN]
  | n + 1, k + 1, h => by rw [chN, chN_high n (k + 1) (by omega), chN_high n k (by omega)]
theorem chN_zero (n : Nat) : chN n 0 = 1 := by cases n <;> rfl
theorem faN_high (c : Nat) : ∀ i, c < i → faN c i = 0
  | i + 1, h => by
    rw [faN]
    by_cases e : c = i
    · rw [e]; simp
    · rw [faN_high c i (by omega)]; simp
def nf (n : Nat) : Fq := Fin.ofNat 101 n
theorem nf_add (a b : Nat) : nf (a + b) = nf a + nf b := by unfold nf; apply Fin.ext; simp [Fin.val_add]
theorem nf_mul (a b : Nat) : nf (a * b) = nf a * nf b := by unfold nf; apply Fin.ext; simp [Fin.val_mul]
theorem nf_one : nf 1 = 1 := rfl
theorem nf_zero : nf 0 = 0 := rfl
/-- a time and its slope. -/
def Wey (x d : Lq) : Prop := Lq.mul d x = Lq.sum (Lq.mul x d) Lq.one
theorem wey_pow {x d : Lq} (h : Wey x d) : ∀ c, Lq.mul d (Lq.pow x c) = Lq.sum (Lq.mul (Lq.pow x c) d) (Lq.sc (nf c) (Lq.pow x (c - 1)))
  | 0 => by rw [nf_zero, Lq.sc_zero, Lq.sum_nil]; rfl
  | c + 1 => by
    rw [Lq.pow, ← Lq.mul_assoc, wey_pow h c, Lq.sum_mul, Lq.mul_assoc, h, Lq.mul_sum, Lq.mul_one, Lq.sc_mul, ← Lq.mul_assoc, Lq.sum_assoc, nf_add, Lq.sc_add, nf_one, Lq.sc_one]
    congr 1
    show Lq.sum (Lq.pow x c) _ = Lq.sum _ (Lq.pow x (c + 1 - 1))
    rw [Lq.sum_comm]
    congr 1
    cases c with
    | zero => rw [nf_zero, Lq.sc_zero, Lq.sc_zero]
    | succ c => rfl
def wN (b c i : Nat) : Nat := chN b i * faN c i
theorem wey_order {x d : Lq} (h : Wey x d) (c : Nat) : ∀ b, Lq.mul (Lq.pow d b) (Lq.pow x c) = Lq.sumN (fun i => Lq.sc (nf (wN b c i)) (Lq.mul (Lq.pow x (c - i)) (Lq.pow d (b - i)))) (b + 1)
  | 0 => by
    show Lq.pow x c = Lq.sum Lq.nil (Lq.sc (nf (wN 0 c 0)) (Lq.mul (Lq.pow x (c - 0)) Lq.one))
    rw [Lq.sum_comm, Lq.sum_nil]
    show _ = Lq.sc (nf 1) _
    rw [nf_one, Lq.sc_one]; rfl
  | b + 1 => by
    rw [Lq.pow_succ', Lq.mul_assoc, wey_order h c b, Lq.mul_sumN]
    have e1 : Lq.sumN (fun i => Lq.mul d (Lq.sc (nf (wN b c i)) (Lq.mul (Lq.pow x (c - i)) (Lq.pow d (b - i))))) (b + 1) = Lq.sumN (fun i => Lq.sum (Lq.sc (nf (wN b c i)) (Lq.mul (Lq.pow x (c - i)) (Lq.pow d (b + 1 - i)))) (Lq.sc (nf (wN b c i * (c - i))) (Lq.mul (Lq.pow x (c - (i + 1))) (Lq.pow d (b - i))))) (b + 1) := by
      refine Lq.sumN_congr (fun i hi => ?_)
      rw [Lq.mul_sc, ← Lq.mul_assoc, wey_pow h, Lq.sum_mul, Lq.sc_sum, Lq.mul_assoc, ← Lq.pow_succ', Lq.sc_mul, Lq.sc_sc, nf_mul, show b - i + 1 = b + 1 - i by omega, show c - i - 1 = c - (i + 1) by omega]
    rw [e1, Lq.sumN_sum]
    rw [Lq.sumN_head (fun i => Lq.sc (nf (wN (b + 1) c i)) (Lq.mul (Lq.pow x (c - i)) (Lq.pow d (b + 1 - i))))]
    have e2 : Lq.sumN (fun i => Lq.sc (nf (wN (b + 1) c (i + 1))) (Lq.mul (Lq.pow x (c - (i + 1))) (Lq.pow d (b + 1 - (i + 1))))) (b + 1) = Lq.sum (Lq.sumN (fun i => Lq.sc (nf (wN b c (i + 1))) (Lq.mul (Lq.pow x (c - (i + 1))) (Lq.pow d (b + 1 - (i + 1))))) (b + 1)) (Lq.sumN (fun i => Lq.sc (nf (wN b c i * (c - i))) (Lq.mul (Lq.pow x (c - (i + 1))) (Lq.pow d (b - i)))) (b + 1)) := by
      rw [← Lq.sumN_sum]
      refine Lq.sumN_congr (fun i hi => ?_)
      have : wN (b + 1) c (i + 1) = wN b c (i + 1) + wN b c i * (c - i) := by
        unfold wN
        rw [chN, faN, Nat.add_mul, Nat.mul_assoc]
      rw [this, nf_add, Lq.sc_add, show b + 1 - (i + 1) = b - i by omega]
    rw [e2, ← Lq.sum_assoc]
    congr 1
    rw [show wN (b + 1) c 0 = wN b c 0 by simp [wN, chN_zero], ← Lq.sumN_head (fun i => Lq.sc (nf (wN b c i)) (Lq.mul (Lq.pow x (c - i)) (Lq.pow d (b + 1 - i)))), Lq.sumN.eq_2 _ (b + 1)]
    have : wN b c (b + 1) = 0 := by unfold wN; rw [chN_high b (b + 1) (by omega), Nat.zero_mul]
    rw [this, nf_zero, Lq.sc_zero, Lq.sum_nil]
end Go.Proofs.Ytbkighpmkadmmaa
