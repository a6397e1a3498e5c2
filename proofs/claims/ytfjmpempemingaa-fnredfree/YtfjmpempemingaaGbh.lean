/-
  The greatest term of a product in each order, as it is told.
  A division on its way, as lists: what a step does, and what stays true.
  An answer that is a list of operators: its memory is its own; it is marked, and the marks are held.
-/
import Derived.Test.YtfjmpempemingaaGbg
import Derived.Test.YtfjmpempemingaaGak
import Derived.Test.YtfjmpempemingaaGal
import Derived.Test.YtfjmpempemingaaGam
namespace Go.Proofs.Ytfjmpempemingaa
open Go.RowKit
set_option linter.unusedVariables false

def rkW (o : Int) (m : M) : Int := if o = 1 then rkD m else if o = 3 then rkO m else rkL m
theorem rkW_ord {o : Int} {a b : M} (ho : 1 ≤ o ∧ o ≤ 3) (ha : a.ok = true) (hb : b.ok = true) : M.ord o a b = c3 (rkW o a) (rkW o b) := by
  obtain ⟨h1, h2⟩ := ho
  have h : o = 1 ∨ o = 2 ∨ o = 3 := by omega
  rcases h with rfl | rfl | rfl
  · rw [← rk_deg ha hb]; simp [rkW]
  · rw [← rk_two ha hb]; simp [rkW]
  · rw [← rk_out ha hb]; simp [rkW]
theorem rkW_wt (o : Int) : Wt (rkW o) := fun a b i k => by
  unfold rkW rkD rkO rkL M.sum
  split
  · simp only; omega
  · split
    · simp only; omega
    · simp only; omega
theorem dig16 {a b c d : Int} (hb : 0 ≤ b ∧ b ≤ 15) (hd : 0 ≤ d ∧ d ≤ 15) (h : a * 16 + b = c * 16 + d) : a = c ∧ b = d := by omega
theorem dig65 {a b c d : Int} (hb : 0 ≤ b ∧ b ≤ 65535) (hd : 0 ≤ d ∧ d ≤ 65535) (h : a * 65536 + b = c * 65536 + d) : b = d := by omega
theorem rkL_bdW {a : M} (ha : a.ok = true) : 0 ≤ rkL a ∧ rkL a ≤ 65535 := by
  obtain ⟨x1, x2, y1, y2, d1, d2, e1, e2⟩ := M.ok_iff.1 ha
  unfold rkL
  omega
theorem rkL_injW {a b : M} (ha : a.ok = true) (hb : b.ok = true) (h : rkL a = rkL b) : a = b := by
  obtain ⟨x1, x2, y1, y2, d1, d2, e1, e2⟩ := M.ok_iff.1 ha
  obtain ⟨x3, x4, y3, y4, d3, d4, e3, e4⟩ := M.ok_iff.1 hb
  unfold rkL at h
  have k1 := dig16 ⟨y1, y2⟩ ⟨y3, y4⟩ h
  have k2 := dig16 ⟨x1, x2⟩ ⟨x3, x4⟩ k1.1
  have k3 := dig16 ⟨e1, e2⟩ ⟨e3, e4⟩ k2.1
  have q1 := k1.2
  have q2 := k2.2
  have q3 := k3.2
  have q4 := k3.1
  revert q1 q2 q3 q4
  cases a; cases b
  intro q1 q2 q3 q4
  simp only at q1 q2 q3 q4
  rw [q1, q2, q3, q4]
theorem rkW_inj {o : Int} (a b : M) (ha : a.ok = true) (hb : b.ok = true) (h : rkW o a = rkW o b) : a = b := by
  refine rkL_injW ha hb ?_
  have ba := rkL_bdW ha
  have bb := rkL_bdW hb
  unfold rkW at h
  split at h
  · exact dig65 ba bb h
  · split at h
    · exact dig65 ba bb h
    · exact h
theorem c3_gtW {a b : Int} : 0 < c3 a b ↔ b < a := by unfold c3; split <;> (try split) <;> omega
theorem lead_topW {o : Int} {f : Nat → T} {n : Nat} (ho : 1 ≤ o ∧ o ≤ 3) (hm : ∀ i, i < n → (f i).m.ok = true) : ∀ (u i k : Nat), i + u ≤ n → k < n → leadFrom o f u i k < n ∧ rkW o (f k).m ≤ rkW o (f (leadFrom o f u i k)).m ∧ ∀ j, i ≤ j → j < i + u → rkW o (f j).m ≤ rkW o (f (leadFrom o f u i k)).m
  | 0, i, k, _, hk => ⟨hk, Int.le_refl _, fun j h1 h2 => by omega⟩
  | u + 1, i, k, hi, hk => by
    have hc := c3_gtW (a := rkW o (f i).m) (b := rkW o (f k).m)
    rw [← rkW_ord ho (hm i (by omega)) (hm k hk)] at hc
    simp only [leadFrom]
    split
    · rename_i h
      obtain ⟨h1, h2, h3⟩ := lead_topW ho hm u (i + 1) i (by omega) (by omega)
      have h4 := hc.1 h
      refine ⟨h1, by omega, fun j hj1 hj2 => ?_⟩
      by_cases hji : j = i
      · rw [hji]; exact h2
      · exact h3 j (by omega) (by omega)
    · rename_i h
      obtain ⟨h1, h2, h3⟩ := lead_topW ho hm u (i + 1) k (by omega) hk
      have h4 : ¬ rkW o (f k).m < rkW o (f i).m := fun q => h (hc.2 q)
      refine ⟨h1, h2, fun j hj1 hj2 => ?_⟩
      by_cases hji : j = i
      · rw [hji]; omega
      · exact h3 j (by omega) (by omega)
def ldT (o : Int) (L : List T) : T := leadT o L.length (lf L)
def ldB (o : Int) (L : List T) : Bool := leadOk o L.length (lf L)
theorem ldB_iff {o : Int} {L : List T} : ldB o L = true ↔ (1 ≤ o ∧ o ≤ 3) ∧ okL L = true ∧ L ≠ [] := by
  unfold ldB leadOk
  rw [Bool.and_eq_true, Bool.and_eq_true, decide_eq_true_eq, decide_eq_true_eq]
  constructor
  · rintro ⟨⟨h1, h2⟩, h3⟩
    exact ⟨h1, h2, fun e => by rw [e] at h3; simp at h3⟩
  · rintro ⟨h1, h2, h3⟩
    exact ⟨⟨h1, h2⟩, List.length_pos_iff.2 h3⟩
/-- the greatest term stands in it, and none is greater. -/
theorem ld_top {o : Int} {L : List T} (h : ldB o L = true) : ldT o L ∈ L ∧ ∀ t ∈ L, rkW o t.m ≤ rkW o (ldT o L).m := by
  obtain ⟨ho, oL, hne⟩ := ldB_iff.1 h
  have hpos := List.length_pos_iff.2 hne
  have fl := fl_of_ok (show polOk L.length (lf L) = true from oL)
  have e : ldT o L = lf L (leadAt o (lf L) L.length) := leadT_yes h
  have hm : ∀ i, i < L.length → (lf L i).m.ok = true := fun i hi => (fl.2 i hi).1
  have key := lead_topW (o := o) (f := lf L) (n := L.length) ho hm (L.length - 1) 1 0 (by omega) hpos
  have e2 : leadAt o (lf L) L.length = leadFrom o (lf L) (L.length - 1) 1 0 := rfl
  rw [e, e2]
  refine ⟨?_, fun t ht => ?_⟩
  · rw [lf_eq key.1]; exact List.getElem_mem _
  · obtain ⟨i, hi, rfl⟩ := List.mem_iff_getElem.1 ht
    by_cases h0 : i = 0
    · subst h0
      have := key.2.1
      rwa [lf_eq hpos] at this
    · have := key.2.2 i (by omega) (by omega)
      rwa [lf_eq hi] at this
theorem wm_nil_l {B P : List T} (h : wmV [] B = (P, true)) : P = [] := by
  have h1 := Rp_mul stdG h
  rw [Rp_nil, Lq.nil_mul] at h1
  exact nil_of_Rp (wm_falls h) h1
theorem wm_nil_r {A P : List T} (h : wmV A [] = (P, true)) : P = [] := by
  have h1 := Rp_mul stdG h
  rw [Rp_nil, Lq.mul_nil] at h1
  exact nil_of_Rp (wm_falls h) h1
theorem ld_nil (o : Int) : ldB o [] = false := by
  cases h : ldB o []
  · rfl
  · exact absurd rfl (ldB_iff.1 h).2.2
theorem ld_prod {o : Int} (ho : 1 ≤ o ∧ o ≤ 3) {A B P : List T} (h : wmV A B = (P, true)) : ldB o P = (ldB o A && ldB o B) ∧ (ldB o A = true → ldB o B = true → M.mul ⟨(ldT o A).m.x, (ldT o A).m.y, (ldT o A).m.d, (ldT o A).m.e⟩ ⟨(ldT o B).m.x, (ldT o B).m.y, (ldT o B).m.d, (ldT o B).m.e⟩ = ((ldT o P).m, true) ∧ fMul (ldT o A).c (ldT o B).c = (ldT o P).c) := by
  obtain ⟨oA, oB⟩ := wm_args h
  cases hA : ldB o A
  · have eA : A = [] := by
      by_cases e : A = []
      · exact e
      · rw [ldB_iff.2 ⟨ho, oA, e⟩] at hA; cases hA
    subst eA
    rw [wm_nil_l h, ld_nil]
    exact ⟨rfl, fun q => by cases q⟩
  · cases hB : ldB o B
    · have eB : B = [] := by
        by_cases e : B = []
        · exact e
        · rw [ldB_iff.2 ⟨ho, oB, e⟩] at hB; cases hB
      subst eB
      rw [wm_nil_r h, ld_nil]
      exact ⟨rfl, fun _ q => by cases q⟩
    · obtain ⟨a1, a2⟩ := ld_top hA
      obtain ⟨b1, b2⟩ := ld_top hB
      have hp := lead_prod (rkW_wt o) rkW_inj h a1 b1 a2 b2
      have hne : P ≠ [] := fun e => by rw [e] at hp; cases hp.1
      have hP : ldB o P = true := ldB_iff.2 ⟨ho, wm_ok h, hne⟩
      refine ⟨hP, fun _ _ => ?_⟩
      obtain ⟨p1, p2⟩ := ld_top hP
      have fP := wm_falls h
      have r1 := fP.2 _ p1
      have hs := (wm_lin h).2 _ a1 _ b1
      have l1 := hp.2 _ p1
      have l2 := p2 _ hp.1
      dsimp only at l2
      have em : (ldT o P).m = (ldT o A).m.sum (ldT o B).m := by
        refine rkW_inj (o := o) _ _ r1.1 hs ?_
        exact Int.le_antisymm l1 l2
      have ra := (okL_falls oA).2.2 _ a1
      have rb := (okL_falls oB).2.2 _ b1
      have ec : (ldT o P).c = (ldT o A).c * (ldT o B).c % 101 := by
        have h1 : ∀ X : List T, Falls X → ∀ t ∈ X, ∀ s ∈ X, t.m = s.m → t = s := fun X hX => by
          induction X with
          | nil => intro t ht; cases ht
          | cons z r ih =>
            intro t ht s hs e
            have hp := (List.pairwise_cons.1 hX.1).1
            rcases List.mem_cons.1 ht with rfl | ht'
            · rcases List.mem_cons.1 hs with rfl | hs'
              · rfl
              · have := hp s hs'; rw [e] at this; omega
            · rcases List.mem_cons.1 hs with rfl | hs'
              · have := hp t ht'; rw [e] at this; omega
              · exact ih hX.tail t ht' s hs' e
        rw [h1 P fP _ p1 _ hp.1 em]
      refine ⟨?_, ?_⟩
      · rw [em]
        have e3 : ∀ m : M, (⟨m.x, m.y, m.d, m.e⟩ : M) = m := fun m => by cases m; rfl
        rw [e3, e3]
        unfold M.mul
        simp [ra.1, rb.1, hs]
      · rw [ec, fMul_in (by omega) ra.2.2 (by omega) rb.2.2]
theorem ldI_L (o : Int) {w : World} {a : Option Addr} {ca : Nat} {L : List T} (ha : RL w a ca L) : Calls Try.prog 50 #[.int .i64 o, .slice a L.length ca] w fun r w' => r = .returned (.tuple #[.agg #[.int .i64 (ldT o L).c, .int .i64 (ldT o L).m.x, .int .i64 (ldT o L).m.y, .int .i64 (ldT o L).m.d, .int .i64 (ldT o L).m.e], .bool (ldB o L)]) ∧ Below w.heap.size w w' := polLeadI w o a L.length ca (lf L) ha
end Go.Proofs.Ytfjmpempemingaa
namespace Go.Proofs.Ytfjmpempemingaa
open Go.RowKit Go.Deep Go.Joins
set_option linter.unusedVariables false

/-- what is not divided yet, what is taken of each, what is left. -/
structure Dv where
  p : List T
  q : Nat → List T
  r : List T
/-- the greatest term. -/
def ldL (o : Int) (L : List T) : T := lf L (leadAt o (lf L) L.length)
/-- which one takes. -/
def dvK (o : Int) (n : Nat) (ln : Nat → Nat) (f : Nat → Nat → T) (m : M) : Int := idxF (fun t => M.dvd t.m m) (ldAt o ln f) n
def updQ (q : Nat → List T) (k : Nat) (L : List T) (i : Nat) : List T := if i = k then L else q i
/-- what is taken. -/
def dvT (o : Int) (ln : Nat → Nat) (f : Nat → Nat → T) (S : Dv) (k : Nat) : T := overT (ldL o S.p) (ldAt o ln f k)
def dvTake (o : Int) (ln : Nat → Nat) (f : Nat → Nat → T) (S : Dv) (k : Nat) : Option Dv :=
  match mulM (lf [dvT o ln f S k]) (f k) (ln k) 1 with
  | none => none
  | some Y => if (subL S.p Y).length ≤ 400 then some ⟨subL S.p Y, updQ S.q k (addL (S.q k) [dvT o ln f S k]), S.r⟩ else none
def dvLeave (o : Int) (S : Dv) : Dv := ⟨subL S.p [ldL o S.p], S.q, addL S.r [ldL o S.p]⟩
def dvStep (o : Int) (n : Nat) (ln : Nat → Nat) (f : Nat → Nat → T) (S : Dv) : Option Dv :=
  if 0 ≤ dvK o n ln f (ldL o S.p).m then dvTake o ln f S (dvK o n ln f (ldL o S.p).m).toNat else some (dvLeave o S)
def dvRun (o : Int) (n : Nat) (ln : Nat → Nat) (f : Nat → Nat → T) : Nat → Dv → Option Dv
  | 0, S => if S.p.length = 0 then some S else none
  | u + 1, S => if S.p.length = 0 then some S else match dvStep o n ln f S with
    | none => none
    | some S' => dvRun o n ln f u S'
def dvOf (p : List T) : Dv := ⟨p, fun _ => [], []⟩
/-- what RedAll answers; none, if it is too much. -/
def redAll (o : Int) (p : List T) (n : Nat) (ln : Nat → Nat) (f : Nat → Nat → T) : Option Dv :=
  if (1 ≤ o ∧ o ≤ 3) ∧ okL p = true ∧ lstOk n ln f = true then dvRun o n ln f 300 (dvOf p) else none
/-- what is true of a division behind u steps. -/
structure DvOk (u : Nat) (S : Dv) : Prop where
  p : okL S.p = true
  q : ∀ k, Falls (S.q k) ∧ (S.q k).length ≤ u
  r : Falls S.r ∧ S.r.length ≤ u
theorem DvOk.start {p : List T} (h : okL p = true) : DvOk 0 (dvOf p) := ⟨h, fun _ => ⟨falls_nil, Nat.le_refl _⟩, falls_nil, Nat.le_refl _⟩
theorem dvRun_done {o : Int} {n : Nat} {ln : Nat → Nat} {f : Nat → Nat → T} {u : Nat} {S : Dv} (h : S.p.length = 0) : dvRun o n ln f u S = some S := by
  cases u <;> exact if_pos h
theorem dvRun_out {o : Int} {n : Nat} {ln : Nat → Nat} {f : Nat → Nat → T} {S : Dv} (h : S.p.length ≠ 0) : dvRun o n ln f 0 S = none := if_neg h
theorem dvRun_no {o : Int} {n : Nat} {ln : Nat → Nat} {f : Nat → Nat → T} {u : Nat} {S : Dv} (h : S.p.length ≠ 0) (hs : dvStep o n ln f S = none) : dvRun o n ln f (u + 1) S = none := by
  show (if S.p.length = 0 then some S else match dvStep o n ln f S with | none => none | some S' => dvRun o n ln f u S') = none
  rw [if_neg h, hs]
theorem dvRun_step {o : Int} {n : Nat} {ln : Nat → Nat} {f : Nat → Nat → T} {u : Nat} {S S' : Dv} (h : S.p.length ≠ 0) (hs : dvStep o n ln f S = some S') : dvRun o n ln f (u + 1) S = dvRun o n ln f u S' := by
  show (if S.p.length = 0 then some S else match dvStep o n ln f S with | none => none | some S' => dvRun o n ln f u S') = _
  rw [if_neg h, hs]
theorem ldL_mem {o : Int} {L : List T} (h : L.length ≠ 0) : ldL o L ∈ L := lf_mem (leadAt_lt (by omega))
theorem ldL_good {o : Int} {L : List T} (hL : Falls L) (h : L.length ≠ 0) : (ldL o L).m.ok = true ∧ 1 ≤ (ldL o L).c ∧ (ldL o L).c ≤ 100 := hL.2 _ (ldL_mem h)
theorem ldL_is {o : Int} {L : List T} (ho : 1 ≤ o ∧ o ≤ 3) (hL : okL L = true) (h : L.length ≠ 0) : ldL o L = ldT o L := by
  have : leadOk o L.length (lf L) = true := ldB_iff.2 ⟨ho, hL, fun e => h (by rw [e]; rfl)⟩
  unfold ldT
  rw [leadT_yes this]
  rfl
theorem ldL_top {o : Int} {L : List T} (ho : 1 ≤ o ∧ o ≤ 3) (hL : okL L = true) (h : L.length ≠ 0) : ∀ t ∈ L, rkW o t.m ≤ rkW o (ldL o L).m := by
  have : ldB o L = true := ldB_iff.2 ⟨ho, hL, fun e => h (by rw [e]; rfl)⟩
  rw [ldL_is ho hL h]
  exact (ld_top this).2
theorem ldAt_good {o : Int} {n : Nat} {ln : Nat → Nat} {f : Nat → Nat → T} (hl : lstOk n ln f = true) {k : Nat} (hk : k < n) : (ldAt o ln f k).m.ok = true ∧ 1 ≤ (ldAt o ln f k).c ∧ (ldAt o ln f k).c ≤ 100 := by
  obtain ⟨h0, h1⟩ := (lstOk_all hl).2 k hk
  exact (fl_of_ok h1).2 _ (leadAt_lt (by omega))
theorem mul_pos101 {a b : Int} (h1 : 1 ≤ a) (h2 : a ≤ 100) (h3 : 1 ≤ b) (h4 : b ≤ 100) : 1 ≤ a * b % 101 ∧ a * b % 101 ≤ 100 := by
  have h0 : a * b % 101 ≠ 0 := fun e => by
    obtain ⟨x, hx⟩ : ∃ x : Nat, a = x := ⟨a.toNat, by omega⟩
    obtain ⟨y, hy⟩ : ∃ y : Nat, b = y := ⟨b.toNat, by omega⟩
    subst hx hy
    have := prime_nat ⟨x, by omega⟩ ⟨y, by omega⟩ (by simp only; exact_mod_cast e)
    simp at this
    omega
  omega
theorem overT_good {t l : T} (ht : t.m.ok = true ∧ 1 ≤ t.c ∧ t.c ≤ 100) (hl : l.m.ok = true ∧ 1 ≤ l.c ∧ l.c ≤ 100) (hd : l.m.dvd t.m = true) : (overT t l).m.ok = true ∧ 1 ≤ (overT t l).c ∧ (overT t l).c ≤ 100 := by
  have h1 := sprT_good (b := t.m) hl hd
  have h2 := mul_pos101 ht.2.1 ht.2.2 (fInv_pos hl.2.1 hl.2.2) (fInv_bd l.c).2
  exact ⟨h1.1, h2.1, h2.2⟩
theorem dvK_facts {o : Int} {n : Nat} {ln : Nat → Nat} {f : Nat → Nat → T} {m : M} (h : 0 ≤ dvK o n ln f m) : (dvK o n ln f m).toNat < n ∧ M.dvd (ldAt o ln f (dvK o n ln f m).toNat).m m = true := by
  unfold dvK at h ⊢
  obtain ⟨i, hi, hp⟩ := idx_iff.1 h
  obtain ⟨j, hj, h1, h2⟩ : ∃ j, j < n ∧ (∀ i, i < j → (fun t : T => M.dvd t.m m) (ldAt o ln f i) = false) ∧ (fun t : T => M.dvd t.m m) (ldAt o ln f j) = true := by
    clear h
    revert i
    induction n with
    | zero => intro i hi; omega
    | succ n ih =>
      intro i hi hp
      by_cases hx : ∃ i, i < n ∧ (fun t : T => M.dvd t.m m) (ldAt o ln f i) = true
      · obtain ⟨i', h1, h2⟩ := hx
        obtain ⟨j, hj, h3, h4⟩ := ih i' h1 h2
        exact ⟨j, by omega, h3, h4⟩
      · have hin : i = n := by
          rcases Nat.lt_or_ge i n with h | h
          · exact absurd ⟨i, h, hp⟩ hx
          · omega
        subst hin
        refine ⟨i, hi, fun k hk => ?_, hp⟩
        cases hb : (fun t : T => M.dvd t.m m) (ldAt o ln f k) with
        | false => rfl
        | true => exact absurd ⟨k, hk, hb⟩ hx
  rw [idx_hit h1 h2 n hj]
  exact ⟨by simpa using hj, by simpa using h2⟩
theorem fallsOne {t : T} (h : t.m.ok = true ∧ 1 ≤ t.c ∧ t.c ≤ 100) : Falls [t] := (okL_falls (one_ok h)).2
theorem dvT_good {o : Int} {n : Nat} {ln : Nat → Nat} {f : Nat → Nat → T} (hl : lstOk n ln f = true) {S : Dv} (hp : okL S.p = true) (h : S.p.length ≠ 0) (hk : 0 ≤ dvK o n ln f (ldL o S.p).m) :
    (dvT o ln f S (dvK o n ln f (ldL o S.p).m).toNat).m.ok = true ∧ 1 ≤ (dvT o ln f S (dvK o n ln f (ldL o S.p).m).toNat).c ∧ (dvT o ln f S (dvK o n ln f (ldL o S.p).m).toNat).c ≤ 100 :=
  overT_good (ldL_good (okL_falls hp).2 h) (ldAt_good hl (dvK_facts hk).1) (dvK_facts hk).2
theorem mul1_falls {t : T} (ht : t.m.ok = true ∧ 1 ≤ t.c ∧ t.c ≤ 100) {g : Nat → T} {m : Nat} (hg : polOk m g = true) {Y : List T} (h : mulM (lf [t]) g m 1 = some Y) : okL Y = true :=
  okL_of (mulM_len _ Y h) (mulM_falls2 (good_ok (show polOk 1 (lf [t]) = true from one_ok ht)).2 (good_ok hg).2 _ Y (Nat.le_refl _) h)
/-- taking: what is true behind it. -/
theorem DvOk.take {o : Int} {n : Nat} {ln : Nat → Nat} {f : Nat → Nat → T} (hl : lstOk n ln f = true) {u : Nat} {S S' : Dv} (h : DvOk u S) (h0 : S.p.length ≠ 0) (hk : 0 ≤ dvK o n ln f (ldL o S.p).m) (hs : dvTake o ln f S (dvK o n ln f (ldL o S.p).m).toNat = some S') : DvOk (u + 1) S' := by
  have hg := dvT_good hl h.p h0 hk
  have hkn := (dvK_facts hk).1
  generalize (dvK o n ln f (ldL o S.p).m).toNat = k at hs hg hkn
  unfold dvTake at hs
  split at hs
  · cases hs
  · rename_i Y hY
    split at hs
    · rename_i hle
      cases hs
      have fY := mul1_falls hg ((lstOk_all hl).2 k hkn).2 hY
      refine ⟨okL_of hle (subL_facts (okL_falls h.p).2 (okL_falls fY).2).1, fun i => ?_, h.r.1, Nat.le_succ_of_le h.r.2⟩
      show Falls (updQ S.q k _ i) ∧ (updQ S.q k _ i).length ≤ u + 1
      unfold updQ
      split
      · refine ⟨(addL_facts (h.q k).1 (fallsOne hg)).1, ?_⟩
        have h1 := addL_len (S.q k) [dvT o ln f S k]
        have h2 := (h.q k).2
        simp only [List.length_singleton] at h1
        omega
      · exact ⟨(h.q i).1, Nat.le_succ_of_le (h.q i).2⟩
    · cases hs
theorem DvOk.leave {o : Int} {u : Nat} {S : Dv} (h : DvOk u S) (h0 : S.p.length ≠ 0) (hle : (subL S.p [ldL o S.p]).length ≤ 400) : DvOk (u + 1) (dvLeave o S) := by
  have hg := ldL_good (o := o) (okL_falls h.p).2 h0
  refine ⟨okL_of hle (subL_facts (okL_falls h.p).2 (fallsOne hg)).1, fun i => ⟨(h.q i).1, Nat.le_succ_of_le (h.q i).2⟩, (addL_facts h.r.1 (fallsOne hg)).1, ?_⟩
  have h1 := addL_len S.r [ldL o S.p]
  have h2 := h.r.2
  simp only [List.length_singleton] at h1
  show (addL S.r [ldL o S.p]).length ≤ u + 1
  omega
theorem mem_coefV {L : List T} (h : Falls L) {t : T} (ht : t ∈ L) : coef L t.m = t.c ∧ coef L t.m ≠ 0 := by
  have h1 : coef L t.m = t.c := by
    induction L with
    | nil => cases ht
    | cons s r ih =>
      rw [coef]
      rcases List.mem_cons.1 ht with rfl | ht'
      · rw [if_pos (meqB_iff.2 rfl)]
      · have h1 := h.head t ht'
        rw [if_neg (fun e => by rw [meqB_iff.1 e] at h1; omega)]
        exact ih h.tail ht'
  have h2 := h.2 t ht
  exact ⟨h1, by omega⟩
/-- a term that is taken away is gone. -/
theorem sub_one_len {L : List T} (hL : Falls L) {t : T} (ht : t ∈ L) : (subL L [t]).length < L.length := by
  have ht' := hL.2 t ht
  have hf := subL_facts hL (fallsOne ht')
  have hm := mem_coefV hL ht
  have key : subL L [t] = L.filter (fun s => !meqB s.m t.m) := by
    refine falls_one hf.1 ⟨hL.1.filter _, fun s hs => hL.2 s (List.mem_filter.1 hs).1⟩ (fun m hmo => ?_)
    rw [hf.2 m]
    by_cases e : t.m = m
    · subst e
      have h1 : coef [t] t.m = t.c := coef_cons_same _ _
      rw [h1, hm.1]
      have h2 : coef (L.filter (fun s => !meqB s.m t.m)) t.m = 0 := by
        by_cases hz : coef (L.filter (fun s => !meqB s.m t.m)) t.m = 0
        · exact hz
        · obtain ⟨s, hs, he⟩ := List.mem_map.1 (coef_mem hz)
          have := (List.mem_filter.1 hs).2
          rw [meqB_iff.2 he] at this
          cases this
      rw [h2]; omega
    · have h1 : coef [t] m = 0 := by rw [coef_cons_ne e]; rfl
      have hb := coef_range hL m
      rw [h1]
      have h2 : coef (L.filter (fun s => !meqB s.m t.m)) m = coef L m := by
        by_cases hz : coef L m = 0
        · rw [hz]
          by_cases hz2 : coef (L.filter (fun s => !meqB s.m t.m)) m = 0
          · exact hz2
          · obtain ⟨s, hs, he⟩ := List.mem_map.1 (coef_mem hz2)
            have h3 := (mem_coefV hL (List.mem_filter.1 hs).1).2
            rw [show s.m = m from he] at h3
            exact absurd hz h3
        · obtain ⟨s, hs, he⟩ := List.mem_map.1 (coef_mem hz)
          have he : s.m = m := he
          subst he
          have h4 : s ∈ L.filter (fun s => !meqB s.m t.m) := List.mem_filter.2 ⟨hs, by rw [meqB_no.2 (fun e' => e e'.symm)]; rfl⟩
          rw [(mem_coefV hL hs).1, (mem_coefV (L := L.filter (fun s => !meqB s.m t.m)) ⟨hL.1.filter _, fun s hs => hL.2 s (List.mem_filter.1 hs).1⟩ h4).1]
      rw [h2]; omega
  rw [key]
  refine List.length_filter_lt_length_iff_exists.2 ⟨t, ht, ?_⟩
  rw [meqB_iff.2 rfl]; decide
theorem dvStep_ok {o : Int} {n : Nat} {ln : Nat → Nat} {f : Nat → Nat → T} (hl : lstOk n ln f = true) {u : Nat} {S S' : Dv} (h : DvOk u S) (h0 : S.p.length ≠ 0) (hs : dvStep o n ln f S = some S') : DvOk (u + 1) S' := by
  unfold dvStep at hs
  split at hs
  · exact h.take hl h0 (by assumption) hs
  · cases hs
    have := sub_one_len (okL_falls h.p).2 (ldL_mem (o := o) h0)
    have h4 := (okL_falls h.p).1
    exact h.leave h0 (by omega)
theorem dvRun_ok {o : Int} {n : Nat} {ln : Nat → Nat} {f : Nat → Nat → T} (hl : lstOk n ln f = true) : ∀ {v u : Nat} {S S' : Dv}, DvOk u S → dvRun o n ln f v S = some S' → DvOk (u + v) S' ∧ S'.p = []
  | 0, u, S, S', h, hr => by
    unfold dvRun at hr
    split at hr
    · rename_i h0
      cases hr
      exact ⟨h, List.length_eq_zero_iff.1 h0⟩
    · cases hr
  | v + 1, u, S, S', h, hr => by
    by_cases h0 : S.p.length = 0
    · rw [dvRun_done h0] at hr
      cases hr
      exact ⟨⟨h.p, fun k => ⟨(h.q k).1, by have := (h.q k).2; omega⟩, h.r.1, by have := h.r.2; omega⟩, List.length_eq_zero_iff.1 h0⟩
    · cases hs : dvStep o n ln f S with
      | none => rw [dvRun_no h0 hs] at hr; cases hr
      | some S1 =>
        rw [dvRun_step h0 hs] at hr
        have := dvRun_ok hl (dvStep_ok hl h h0 hs) hr
        rw [show u + (v + 1) = u + 1 + v by omega]
        exact this
end Go.Proofs.Ytfjmpempemingaa
namespace Go.Proofs.Ytfjmpempemingaa
open Go.RowKit Go.Deep Go.Joins
set_option linter.unusedVariables false

/-- an answer of operators: row block R, the operators' blocks B, all from lo on and apart. -/
structure OutS (lo : Nat) (w : World) (a : Option Addr) (n cap : Nat) (ad : Nat → Option Addr) (ln cp : Nat → Nat) (f : Nat → Nat → T) (R : Nat) (B : Nat → Nat) : Prop where
  rd : RdS w a n cap ad ln cp f
  row : n = 0 ∨ ∃ off, a = some ⟨R, off, none⟩ ∧ lo ≤ R
  wr : ∀ i, i < n → Wr w (ad i) (ln i) (f i)
  el : ∀ i, i < n → ln i = 0 ∨ ∃ off, ad i = some ⟨B i, off, none⟩ ∧ lo ≤ B i ∧ B i ≠ R
  ap : ∀ i j, i < j → j < n → ln i ≠ 0 → ln j ≠ 0 → B i ≠ B j
/-- no block was changed but those of P. -/
structure Only (P : Nat → Prop) (w w' : World) : Prop where
  os : w'.os = w.os
  tape : w'.tape = w.tape
  output : w'.output = w.output
  size : w'.heap.size = w.heap.size
  block : ∀ k, k < w.heap.size → ¬ P k → w'.heap[k]? = w.heap[k]?
theorem Only.refl (P : Nat → Prop) (w : World) : Only P w w := ⟨rfl, rfl, rfl, rfl, fun _ _ _ => rfl⟩
theorem Only.grown {P : Nat → Prop} {w w' w'' : World} {g : Nat} (h : Only P w w') (hg : w'.grownBy w'' (some g)) (hs : w''.heap.size = w'.heap.size) (h1 : P g) : Only P w w'' :=
  ⟨hg.os.trans h.os, hg.tape.trans h.tape, hg.output.trans h.output, hs.trans h.size, fun k hk hc => (hg.block k (by rw [h.size]; exact hk) (fun e => by cases e; exact hc h1)).trans (h.block k hk hc)⟩
theorem Only.cell {P : Nat → Prop} {w w' : World} (h : Only P w w') {b o : Nat} (hb : b < w.heap.size) (hp : ¬ P b) : w'.cell? ⟨b, o, none⟩ = w.cell? ⟨b, o, none⟩ :=
  World.cell?_of_block (w := w) (a := ⟨b, o, none⟩) (h.block b hb hp)
theorem Only.rd {P : Nat → Prop} {w w' : World} (h : Only P w w') {a : Option Addr} {n cap : Nat} {f : Nat → T} (hr : Rd w a n cap f) (hp : n = 0 ∨ ∀ b off, a = some ⟨b, off, none⟩ → ¬ P b) : Rd w' a n cap f := by
  obtain ⟨h1, h2, h3⟩ := hr
  refine ⟨h1, h2, ?_⟩
  rcases h3 with h0 | ⟨b, off, he, hlt, hc⟩
  · exact .inl h0
  · rcases hp with h0 | hp
    · exact .inl h0
    · refine .inr ⟨b, off, he, by rw [h.size]; exact hlt, fun i hi => ?_⟩
      have hn := hp b off he
      obtain ⟨c0, c1, c2, c3, c4⟩ := hc i hi
      exact ⟨(h.cell hlt hn).trans c0, (h.cell hlt hn).trans c1, (h.cell hlt hn).trans c2, (h.cell hlt hn).trans c3, (h.cell hlt hn).trans c4⟩
theorem Only.wr {P : Nat → Prop} {w w' : World} (h : Only P w w') {a : Option Addr} {n : Nat} {f : Nat → T} (hr : Wr w a n f) (hp : n = 0 ∨ ∀ b off, a = some ⟨b, off, none⟩ → ¬ P b) : Wr w' a n f := by
  rcases hr with h0 | ⟨g, off, N, F, he, hrow, hle, hF⟩
  · exact .inl h0
  · rcases hp with h0 | hp
    · exact .inl h0
    · exact .inr ⟨g, off, N, F, he, hrow.of_block (h.block g hrow.lt (hp g off he)), hle, hF⟩
theorem Only.below {P : Nat → Prop} {lo : Nat} {u w w' : World} (hb : Below lo u w) (h : Only P w w') (hp : ∀ k, P k → lo ≤ k) (hlo : lo ≤ u.heap.size) : Below lo u w' :=
  ⟨h.os.trans hb.os, h.tape.trans hb.tape, h.output.trans hb.output, by rw [h.size]; exact hb.size, fun k hk => (h.block k (Nat.lt_of_lt_of_le hk (Nat.le_trans hlo hb.size)) (fun e => by have := hp k e; omega)).trans (hb.block k hk)⟩
/-- the first mark of each. -/
def ksum (k : Int) (ln : Nat → Nat) : Nat → Int
  | 0 => k
  | i + 1 => ksum k ln i + 5 * (ln i)
theorem ksum_bd {k : Int} {ln : Nat → Nat} {n : Nat} (hl : ∀ i, i < n → ln i ≤ 1048576) : ∀ i, i ≤ n → k ≤ ksum k ln i ∧ ksum k ln i ≤ k + 5242880 * i
  | 0, _ => ⟨Int.le_refl _, by show k ≤ k + 5242880 * ((0 : Nat) : Int); omega⟩
  | i + 1, h => by
    have h1 := ksum_bd (k := k) hl i (by omega)
    have h2 := hl i (by omega)
    show k ≤ ksum k ln i + 5 * (ln i) ∧ ksum k ln i + 5 * (ln i) ≤ k + 5242880 * ((i + 1 : Nat) : Int)
    omega
end Go.Proofs.Ytfjmpempemingaa
