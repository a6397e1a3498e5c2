/-
  A sum while it is made, as the numbers of its monomials.
  Lists of terms that fall: their sums, and what is put to them.
  How the rows' readings of terms are opened: a slice of terms that came in is a row of numbers, five a term.
-/
import Derived.Test.YtmlaedpamobmhaaGreatPaf
import Derived.Test.YtmlaedpamobmhaaGreatPae
import Derived.ProofKit
import Derived.Deep.Slices
import Derived.Lib.SmallJoins
namespace Go.Proofs.YtmlaedpamobmhaaGreat
open Go.RowKit Go.Maps
set_option linter.unusedVariables false

theorem keyM_inj {a b : M} (ha : a.ok = true) (hb : b.ok = true) (h : keyM a = keyM b) : a = b := by
  have h1 := keyOfM ha
  have h2 := keyOfM hb
  rw [← h] at h2
  have h3 := lawM.inj h1 h2
  cases a; cases b
  simpa using h3
/-- the map in block b (of at most n entries) is the sum whose monomial m has the number c m. -/
def SumR (w : World) (b n : Nat) (c : M → Int) : Prop :=
  ∃ D : DataW Unit, w.ownsMap Tryz.prog 52 (plainElem Tryz.prog 121) b n D ∧ (∀ m, 0 ≤ c m ∧ c m ≤ 100) ∧
    (∀ m : M, m.ok = true → D.atKey (keyM m) (.lit (.int .i64 0)) = .lit (.int .i64 (c m)) ∧ (Maps.has D (keyM m) = true ↔ c m ≠ 0)) ∧ (∀ kl, Maps.has D kl = true → ∃ m : M, m.ok = true ∧ kl = keyM m)
def meq (a b : M) : Bool := decide (a.x = b.x ∧ a.y = b.y ∧ a.d = b.d ∧ a.e = b.e)
theorem meq_iff {a b : M} : meq a b = true ↔ a = b := by cases a; cases b; simp [meq]
def updC (c : M → Int) (m : M) (v : Int) (x : M) : Int := if meq x m = true then (c m + v) % 101 else c x
theorem updC_same (c : M → Int) (m : M) (v : Int) : updC c m v m = (c m + v) % 101 := if_pos (meq_iff.2 rfl)
theorem updC_other {c : M → Int} {m x : M} {v : Int} (h : x ≠ m) : updC c m v x = c x := if_neg (fun e => h (meq_iff.1 e))
theorem SumR.grown {w w' : World} {b n : Nat} {c : M → Int} {row : Option Nat} (h : SumR w b n c) (hg : w.grownBy w' row) (hne : some b ≠ row) : SumR w' b n c := by
  obtain ⟨D, ⟨es, clock, h1, h2, h3, h4⟩, h5⟩ := h
  have hlt : b < w.heap.size := by
    rcases Nat.lt_or_ge b w.heap.size with h | h
    · exact h
    · rw [Array.getElem?_eq_none h] at h1; cases h1
  exact ⟨D, ⟨es, clock, (hg.block b hlt hne).trans h1, h2, h3, h4⟩, h5⟩
theorem sumAddR (b n : Nat) (c : M → Int) (v : Int) (m : M) (w : World) (hm : m.ok = true) (h : SumR w b n c) (hn : n < maxLen) (h0 : 0 ≤ v) (h1 : v ≤ 100) :
    Calls Tryz.prog 137 #[.map (some b), .int .i64 v, .agg #[.int .i64 m.x, .int .i64 m.y, .int .i64 m.d, .int .i64 m.e]] w fun e w' => e = .returned (.tuple #[]) ∧ SumR w' b (n + 1) (updC c m v) ∧ w.grownBy w' (some b) := by
  obtain ⟨D, hown, hc, hat, hks⟩ := h
  have hD : IsMap D := (hown.tidy lawM).isMap
  have hK : WideAt.IsKeyLit (keyM m) := lawM.key (keyOfM hm)
  refine (sumAdd b n D (c m) v m w hm hown hn (hat m hm).1 (hc m).1 (hc m).2 h0 h1).mono ?_
  rintro e w' ⟨rfl, ho, hg⟩
  refine ⟨rfl, ⟨_, ho, fun x => ?_, fun x hx => ?_, fun kl hkl => ?_⟩, hg⟩
  · unfold updC
    split
    · omega
    · exact hc x
  · by_cases hxm : x = m
    · subst hxm
      rw [updC_same]
      unfold addD
      split
      · rename_i hz
        rw [atKey_del_same, has_del_same, hz]
        exact ⟨rfl, by simp⟩
      · rename_i hz
        rw [atKey_put_same hD hK, has_put_same hD hK]
        exact ⟨rfl, by simp [hz]⟩
    · have hne : keyM x ≠ keyM m := fun e => hxm (keyM_inj hx hm e)
      rw [updC_other hxm]
      unfold addD
      split
      · rw [atKey_del_other hne, has_del_other hne]; exact hat x hx
      · rw [atKey_put_other hne, has_put_other hne]; exact hat x hx
  · by_cases hkm : kl = keyM m
    · exact ⟨m, hm, hkm⟩
    · unfold addD at hkl
      split at hkl
      · rw [has_del_other hkm] at hkl; exact hks kl hkl
      · rw [has_put_other hkm] at hkl; exact hks kl hkl
end Go.Proofs.YtmlaedpamobmhaaGreat
namespace Go.Proofs.YtmlaedpamobmhaaGreat
open Go.RowKit
set_option linter.unusedVariables false

theorem fromC_shift (f : Nat → T) (m : M) : ∀ (u i : Nat), fromC f u (i + 1) m = fromC (fun j => f (j + 1)) u i m
  | 0, _ => rfl
  | u + 1, i => by rw [fromC, fromC, fromC_shift f m u (i + 1)]
theorem fromC_lf (m : M) : ∀ L : List T, fromC (lf L) L.length 0 m = coef L m
  | [] => rfl
  | t :: r => by
    have e : (fun j => lf (t :: r) (j + 1)) = lf r := by funext j; simp [lf]
    have e0 : lf (t :: r) 0 = t := rfl
    rw [List.length_cons, fromC, e0, coef, fromC_shift, e, fromC_lf m r]
theorem fl_lf {L : List T} (h : Falls L) : Fl (lf L) L.length := by
  have at_ : ∀ i (hi : i < L.length), lf L i = L[i] := fun i hi => by unfold lf; rw [List.getD_eq_getElem?_getD, List.getElem?_eq_getElem hi]; rfl
  refine ⟨fun j i hji hi => ?_, fun i hi => ?_⟩
  · rw [at_ i hi, at_ j (by omega)]
    exact (List.pairwise_iff_getElem.1 h.1) j i (by omega) hi hji
  · rw [at_ i hi]
    exact h.2 _ (List.getElem_mem hi)
theorem coef_range {L : List T} (h : Falls L) (m : M) : 0 ≤ coef L m ∧ coef L m ≤ 100 := by
  induction L with
  | nil => simp [coef]
  | cons t r ih =>
    rw [coef]
    split
    · have := h.2 t (List.mem_cons_self ..); omega
    · exact ih h.tail
theorem falls_nil : Falls [] := ⟨List.Pairwise.nil, fun t h => by cases h⟩
/-- the sum of two lists. -/
def addL (K X : List T) : List T := addT (lf K) K.length (lf X) X.length 0 0
theorem addL_facts {K X : List T} (hK : Falls K) (hX : Falls X) : Falls (addL K X) ∧ ∀ m, coef (addL K X) m = (coef K m + coef X m) % 101 := by
  obtain ⟨_, h2, h3⟩ := mrg_facts (fl_lf hK) (fl_lf hX) (K.length - 0 + (X.length - 0)) 0 0 (Nat.le_refl _)
  refine ⟨h2, fun m => (h3 m).trans ?_⟩
  rw [Nat.sub_zero, Nat.sub_zero, fromC_lf, fromC_lf]
theorem putT_facts {L : List T} (hL : Falls L) {c : Int} {m : M} (hm : m.ok = true) (c0 : 0 ≤ c) (c1 : c ≤ 100) : Falls (putT c m L) ∧ ∀ x, coef (putT c m L) x = updC (coef L) m c x := by
  unfold putT
  by_cases hc : c = 0
  · rw [if_pos hc]
    refine ⟨hL, fun x => ?_⟩
    unfold updC
    split
    · rename_i hx
      have := coef_range hL m
      rw [meq_iff.1 hx, hc]
      omega
    · rfl
  · rw [if_neg hc]
    have G : Fl (fun _ => (⟨c, m⟩ : T)) 1 := ⟨fun j i h1 h2 => by omega, fun i hi => ⟨hm, by show 1 ≤ c; omega, c1⟩⟩
    obtain ⟨_, h2, h3⟩ := mrg_facts (fl_lf hL) G (L.length - 0 + (1 - 0)) 0 0 (Nat.le_refl _)
    refine ⟨h2, fun x => (h3 x).trans ?_⟩
    rw [Nat.sub_zero, Nat.sub_zero, fromC_lf]
    show (coef L x + (if meqB m x = true then c else 0)) % 101 = _
    have hr := coef_range hL x
    unfold updC
    by_cases hx : x = m
    · subst hx
      rw [if_pos (meqB_iff.2 rfl), if_pos (meq_iff.2 rfl)]
    · rw [if_neg (fun e => hx (meqB_iff.1 e).symm), if_neg (fun e => hx (meq_iff.1 e))]
      omega
def putAll (xs : List T) (L : List T) : List T := xs.foldl (fun L t => putT t.c t.m L) L
def addAllT (c : M → Int) (xs : List T) : M → Int := xs.foldl (fun c t => updC c t.m t.c) c
/-- terms with a monomial that is ok and a number of the field. -/
def TOK (xs : List T) : Prop := ∀ t ∈ xs, t.m.ok = true ∧ 0 ≤ t.c ∧ t.c ≤ 100
theorem putAll_facts : ∀ (xs : List T) (L : List T), TOK xs → Falls L → Falls (putAll xs L) ∧ coef (putAll xs L) = addAllT (coef L) xs
  | [], L, _, hL => ⟨hL, rfl⟩
  | t :: r, L, hx, hL => by
    have h1 := hx t (List.mem_cons_self ..)
    have h2 := putT_facts hL h1.1 h1.2.1 h1.2.2
    have h3 := putAll_facts r (putT t.c t.m L) (fun s hs => hx s (List.mem_cons_of_mem _ hs)) h2.1
    refine ⟨h3.1, ?_⟩
    show coef (putAll r (putT t.c t.m L)) = addAllT (updC (coef L) t.m t.c) r
    rw [h3.2, funext h2.2]
theorem addAllT_add : ∀ (xs : List T) (c : M → Int) (m : M), TOK xs → (∀ m, 0 ≤ c m ∧ c m ≤ 100) → addAllT c xs m = (c m + addAllT (fun _ => 0) xs m) % 101
  | [], c, m, _, hc => by
    have := hc m
    show c m = (c m + 0) % 101
    omega
  | t :: r, c, m, hx, hc => by
    have h1 := hx t (List.mem_cons_self ..)
    have hr : ∀ (d : M → Int), (∀ m, 0 ≤ d m ∧ d m ≤ 100) → ∀ m, 0 ≤ updC d t.m t.c m ∧ updC d t.m t.c m ≤ 100 := fun d hd m => by
      unfold updC
      split
      · omega
      · exact hd m
    have hz : ∀ m : M, (0 : Int) ≤ (fun _ => 0 : M → Int) m ∧ (fun _ => 0 : M → Int) m ≤ 100 := fun _ => ⟨Int.le_refl _, by show (0 : Int) ≤ 100; decide⟩
    have e1 := addAllT_add r (updC c t.m t.c) m (fun s hs => hx s (List.mem_cons_of_mem _ hs)) (hr c hc)
    have e2 := addAllT_add r (updC (fun _ => 0) t.m t.c) m (fun s hs => hx s (List.mem_cons_of_mem _ hs)) (hr _ hz)
    show addAllT (updC c t.m t.c) r m = (c m + addAllT (updC (fun _ => 0) t.m t.c) r m) % 101
    rw [e1, e2]
    unfold updC
    by_cases hx : m = t.m
    · subst hx
      rw [if_pos (meq_iff.2 rfl), if_pos (meq_iff.2 rfl)]
      clear e1 e2
      dsimp only
      omega
    · rw [if_neg (fun e => hx (meq_iff.1 e)), if_neg (fun e => hx (meq_iff.1 e))]
      clear e1 e2
      dsimp only
      omega
def mulO : Option (List T) → List T × Bool
  | some K => (K, true)
  | none => ([], false)
theorem cok_falls {L : List T} (h : Falls L) : Cok L := fun t ht => by have := h.2 t ht; omega
/-- terms that can be multiplied. -/
def Good (f : Nat → T) (n : Nat) : Prop := ∀ i, i < n → (f i).m.ok = true ∧ 0 ≤ (f i).c ∧ (f i).c ≤ 100
theorem good_ok {n : Nat} {f : Nat → T} (h : polOk n f = true) : n ≤ 400 ∧ Good f n := by
  have hp := h
  simp only [polOk, decide_eq_true_eq] at hp
  refine ⟨hp.1, fun i hi => ?_⟩
  have := (fl_of_ok h).2 i hi
  exact ⟨this.1, by omega, this.2.2⟩
theorem polOk_at {n : Nat} {f : Nat → T} (h : polOk n f = true) {i : Nat} (hi : i < n) : (f i).m.ok = true ∧ 0 ≤ (f i).c ∧ (f i).c ≤ 100 := by have := (fl_of_ok h).2 i hi; exact ⟨this.1, by omega, this.2.2⟩
end Go.Proofs.YtmlaedpamobmhaaGreat
namespace Go.Proofs.YtmlaedpamobmhaaGreat
open Go.RowKit Go.Deep Go.Joins
set_option linter.unusedVariables false

end Go.Proofs.YtmlaedpamobmhaaGreat
