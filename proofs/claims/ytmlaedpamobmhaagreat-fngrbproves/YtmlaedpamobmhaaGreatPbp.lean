/-
  What is left of a pair of operators: what is true of it.
  Whether operators are a basis: pair by pair; the model's GrbOk.
  The pairs that are to be looked at: a queue of pointers; one is put behind all, one is taken away.
-/
import Derived.Test.YtmlaedpamobmhaaGreatPbd
import Derived.Test.YtmlaedpamobmhaaGreatPbe
import Derived.Test.YtmlaedpamobmhaaGreatPbm
import Derived.Test.YtmlaedpamobmhaaGreatPbo
import Derived.Test.YtmlaedpamobmhaaGreatPbc
import Derived.Deep.RegionHeld3
namespace Go.Proofs.YtmlaedpamobmhaaGreat
open Go.RowKit
set_option linter.unusedVariables false

theorem coef_ne_mem1 {m : M} : ∀ {L : List T}, coef L m ≠ 0 → ∃ t ∈ L, t.m = m
  | [], h => absurd rfl h
  | t :: r, h => by
    rw [coef] at h
    split at h
    · rename_i he
      exact ⟨t, List.mem_cons_self .., meqB_iff.1 he⟩
    · obtain ⟨s, hs, e⟩ := coef_ne_mem1 h
      exact ⟨s, List.mem_cons_of_mem _ hs, e⟩
theorem mem_coef1 {L : List T} (h : Falls L) {t : T} (ht : t ∈ L) : coef L t.m = t.c ∧ coef L t.m ≠ 0 := by
  have h1 : coef L t.m = t.c := by
    induction L with
    | nil => cases ht
    | cons s r ih =>
      rw [coef]
      rcases List.mem_cons.1 ht with rfl | ht'
      · rw [if_pos (meqB_iff.2 rfl)]
      · have h1 := h.head t ht'
        rw [if_neg (fun e => by rw [meqB_iff.1 e] at h1; omega)]
        exact ih h.tail ht'
  have h2 := h.2 t ht
  exact ⟨h1, by omega⟩
theorem mul_okM {a c b : M} (h : M.mul a c = (b, true)) : b.ok = true := by
  unfold M.mul at h
  split at h
  · rename_i q; cases h; exact q.2.2
  · cases h
theorem sprPoly_parts {o : Int} {A B L : List T} (h : sprPoly o (lf A) A.length (lf B) B.length = (L, true)) :
    sprOk o A.length (lf A) B.length (lf B) = true ∧ ∃ X Y, wmV [sprU o A.length (lf A) B.length (lf B)] A = (X, true) ∧ wmV [sprV o A.length (lf A) B.length (lf B)] B = (Y, true) ∧ okL X = true ∧ okL Y = true ∧ L = subL X Y ∧ L.length ≤ 400 := by
  unfold sprPoly at h
  by_cases hk : sprOk o A.length (lf A) B.length (lf B) = true
  · refine ⟨hk, ?_⟩
    rw [if_pos hk] at h
    unfold diffV at h
    by_cases h2 : (wylMul (lf [sprU o A.length (lf A) B.length (lf B)]) 1 (lf A) A.length).2 = true ∧ (wylMul (lf [sprV o A.length (lf A) B.length (lf B)]) 1 (lf B) B.length).2 = true
    · rw [if_pos h2] at h
      obtain ⟨X, hX⟩ : ∃ X, wmV [sprU o A.length (lf A) B.length (lf B)] A = (X, true) := by
        rcases wmV_if [sprU o A.length (lf A) B.length (lf B)] A with e | e
        · exact absurd h2.1 (by rw [show wylMul (lf [sprU o A.length (lf A) B.length (lf B)]) 1 (lf A) A.length = ([], false) from e]; simp)
        · exact e
      obtain ⟨Y, hY⟩ : ∃ Y, wmV [sprV o A.length (lf A) B.length (lf B)] B = (Y, true) := by
        rcases wmV_if [sprV o A.length (lf A) B.length (lf B)] B with e | e
        · exact absurd h2.2 (by rw [show wylMul (lf [sprV o A.length (lf A) B.length (lf B)]) 1 (lf B) B.length = ([], false) from e]; simp)
        · exact e
      rw [show wylMul (lf [sprU o A.length (lf A) B.length (lf B)]) 1 (lf A) A.length = (X, true) from hX, show wylMul (lf [sprV o A.length (lf A) B.length (lf B)]) 1 (lf B) B.length = (Y, true) from hY] at h
      rcases subV_case X Y with e | ⟨_, _, hl, e⟩
      · rw [show polSub (lf X) X.length (lf Y) Y.length = ([], false) from e] at h
        cases h
      · rw [show polSub (lf X) X.length (lf Y) Y.length = (subL X Y, true) from e] at h
        have hL : subL X Y = L := by cases h; rfl
        exact ⟨X, Y, hX, hY, wm_ok hX, wm_ok hY, hL.symm, by rw [← hL]; exact hl⟩
    · rw [if_neg h2] at h; cases h
  · rw [if_neg hk] at h; cases h
theorem spr_ok {o : Int} {A B L : List T} (h : sprPoly o (lf A) A.length (lf B) B.length = (L, true)) : okL L = true := by
  obtain ⟨hk, X, Y, hX, hY, oX, oY, rfl, hl⟩ := sprPoly_parts h
  exact okL_of hl (subL_facts (okL_falls oX).2 (okL_falls oY).2).1
theorem top_prod {o : Int} {u : T} {A X : List T} (gu : u.m.ok = true ∧ 1 ≤ u.c ∧ u.c ≤ 100) (hA : ldB o A = true) (h : wmV [u] A = (X, true)) {b : M} (hb : M.mul u.m (ldT o A).m = (b, true)) (hc : fMul u.c (ldT o A).c = 1) :
    coef X b = 1 ∧ ∀ t ∈ X, rkW o t.m ≤ rkW o b := by
  obtain ⟨ho, oA, _⟩ := ldB_iff.1 hA
  have hu : ldB o [u] = true := ldB_iff.2 ⟨ho, one_ok gu, by simp⟩
  obtain ⟨e1, e2⟩ := ld_prod ho h
  rw [hu, hA] at e1
  have hX : ldB o X = true := e1
  obtain ⟨e3, e4⟩ := e2 hu hA
  have eu : ldT o [u] = u := by
    have := (ld_top hu).1
    simpa using this
  rw [eu] at e3 e4
  have eb : (ldT o X).m = b := by
    have := e3.symm.trans (show M.mul ⟨u.m.x, u.m.y, u.m.d, u.m.e⟩ ⟨(ldT o A).m.x, (ldT o A).m.y, (ldT o A).m.d, (ldT o A).m.e⟩ = (b, true) from hb)
    cases this; rfl
  obtain ⟨t1, t2⟩ := ld_top hX
  have hm := (mem_coef1 (okL_falls (wm_ok h)).2 t1).1
  rw [eb] at t2 hm
  refine ⟨?_, t2⟩
  rw [hm, ← e4, hc]
/-- no monomial of it is as great as what both greatest ones divide. -/
theorem spr_below {o : Int} {A B L : List T} (h : sprPoly o (lf A) A.length (lf B) B.length = (L, true)) : ∀ t ∈ L, M.cmp o t.m (sprB o A.length (lf A) B.length (lf B)) < 0 := by
  obtain ⟨hk, X, Y, hX, hY, oX, oY, rfl, hl⟩ := sprPoly_parts h
  obtain ⟨gU, gV⟩ := spr_good hk
  obtain ⟨m1, m2, c1, c2, _⟩ := spr_law hk
  have hk' := hk
  unfold sprOk at hk'
  rw [Bool.and_eq_true] at hk'
  obtain ⟨x1, x2⟩ := top_prod gU (show ldB o A = true from hk'.1) hX m1 c1
  obtain ⟨y1, y2⟩ := top_prod gV (show ldB o B = true from hk'.2) hY m2 c2
  have fX := (okL_falls oX).2
  have fY := (okL_falls oY).2
  obtain ⟨fL, cL⟩ := subL_facts fX fY
  have ho := (leadOk_parts hk'.1).1
  have hbok : (sprB o A.length (lf A) B.length (lf B)).ok = true := mul_okM m1
  generalize sprB o A.length (lf A) B.length (lf B) = b at *
  intro t ht
  have tok := (fL.2 t ht).1
  obtain ⟨q1, q2⟩ := mem_coef1 fL ht
  have hne : t.m ≠ b := fun e => by
    apply q2
    rw [e, cL b, x1, y1]
    decide
  have hle : rkW o t.m ≤ rkW o b := by
    by_cases hx : coef X t.m = 0
    · by_cases hy : coef Y t.m = 0
      · exact absurd (by rw [cL, hx, hy]; decide) q2
      · obtain ⟨s, hs, e⟩ := coef_ne_mem1 hy
        rw [← e]; exact y2 s hs
    · obtain ⟨s, hs, e⟩ := coef_ne_mem1 hx
      rw [← e]; exact x2 s hs
  have hlt : rkW o t.m ≠ rkW o b := fun e => hne (rkW_inj _ _ tok hbok e)
  unfold M.cmp
  rw [if_pos ⟨ho, tok, hbok⟩, rkW_ord ho tok hbok]
  unfold c3
  split
  · omega
  · split <;> omega
end Go.Proofs.YtmlaedpamobmhaaGreat
namespace Go.Proofs.YtmlaedpamobmhaaGreat
open Go.RowKit Go.Deep Go.Joins
set_option linter.unusedVariables false

theorem redAll_is {o : Int} {p : List T} {n : Nat} {L : Nat → List T} (ho : 1 ≤ o ∧ o ≤ 3) (hp : okL p = true) (hl : lstOk n (lN L) (fN L) = true) : redAll o p n (lN L) (fN L) = dvRun o n (lN L) (fN L) 300 (dvOf p) := if_pos ⟨ho, hp, hl⟩
theorem sprS_L2 {w : World} (o : Int) {a b : Option Addr} {ca cb : Nat} {A B : List T} (ha : RL w a ca A) (hb : RL w b cb B) : Calls Tryz.prog 56 #[.int .i64 o, .slice a A.length ca, .slice b B.length cb] w (Two2 w (sprPoly o (lf A) A.length (lf B) B.length)) :=
  (sprPolyS w o a b A.length ca B.length cb (lf A) (lf B) ha hb).mono fun _ _ h => two_owns (sprPoly_len _ _ _ _ _) h
end Go.Proofs.YtmlaedpamobmhaaGreat
namespace Go.Proofs.YtmlaedpamobmhaaGreat
open Go.RowKit Go.Deep Go.Joins
set_option linter.unusedVariables false

/-! which memory has turned -/
structure Fr (P : Nat → Prop) (w w' : World) : Prop where
  os : w'.os = w.os
  tape : w'.tape = w.tape
  output : w'.output = w.output
  size : w.heap.size ≤ w'.heap.size
  block : ∀ k, k < w.heap.size → ¬ P k → w'.heap[k]? = w.heap[k]?
theorem Fr.refl (P : Nat → Prop) (w : World) : Fr P w w := ⟨rfl, rfl, rfl, Nat.le_refl _, fun _ _ _ => rfl⟩
theorem Fr.trans {P : Nat → Prop} {a b c : World} (h : Fr P a b) (k : Fr P b c) : Fr P a c :=
  ⟨k.os.trans h.os, k.tape.trans h.tape, k.output.trans h.output, Nat.le_trans h.size k.size, fun i hi hn => (k.block i (Nat.lt_of_lt_of_le hi h.size) hn).trans (h.block i hi hn)⟩
theorem Fr.mono {P P' : Nat → Prop} {w w' : World} (h : Fr P w w') (hp : ∀ k, k < w.heap.size → P k → P' k) : Fr P' w w' := ⟨h.os, h.tape, h.output, h.size, fun k hk hn => h.block k hk (fun e => hn (hp k hk e))⟩
theorem Fr.of_below {P : Nat → Prop} {w w' : World} (h : Below w.heap.size w w') : Fr P w w' := ⟨h.os, h.tape, h.output, h.size, fun k hk _ => h.block k hk⟩
theorem Fr.next {P : Nat → Prop} {a b c : World} (h : Fr P a b) (k : Below b.heap.size b c) : Fr P a c := h.trans (Fr.of_below k)
theorem Fr.set {P : Nat → Prop} {w w' : World} (h : Fr P w w') {b o : Nat} {v : Value} (hb : b < w.heap.size → P b) : Fr P w (w'.setCell ⟨b, o, none⟩ v) :=
  ⟨h.os, h.tape, h.output, by simpa [World.setCell] using h.size, fun k hk hn => (Below.heap_setCell _ _ _ _ (by show k ≠ b; intro e; subst e; exact hn (hb hk))).trans (h.block k hk hn)⟩
theorem Fr.grown {P : Nat → Prop} {w w' w'' : World} {row : Option Nat} (h : Fr P w w') (hg : w'.grownBy w'' row) (hr : ∀ g, row = some g → g < w.heap.size → P g) : Fr P w w'' :=
  ⟨hg.os.trans h.os, hg.tape.trans h.tape, hg.output.trans h.output, Nat.le_trans h.size hg.size, fun k hk hn => (hg.block k (Nat.lt_of_lt_of_le hk h.size) (fun e => hn (hr k e.symm hk))).trans (h.block k hk hn)⟩
theorem Fr.cell {P : Nat → Prop} {w w' : World} (h : Fr P w w') {b o : Nat} (hb : b < w.heap.size) (hp : ¬ P b) : w'.cell? ⟨b, o, none⟩ = w.cell? ⟨b, o, none⟩ :=
  World.cell?_of_block (w := w) (a := ⟨b, o, none⟩) (h.block b hb hp)
theorem Fr.frozen {P : Nat → Prop} {w w' : World} (h : Fr P w w') {b o : Nat} (hb : b < w.heap.size) (hp : ¬ P b) : w'.frozen? ⟨b, o, none⟩ = w.frozen? ⟨b, o, none⟩ :=
  World.frozen?_of_block (w := w) (a := ⟨b, o, none⟩) (h.block b hb hp)
theorem Fr.rd {P : Nat → Prop} {w w' : World} (h : Fr P w w') {a : Option Addr} {n cap : Nat} {f : Nat → T} (hr : Rd w a n cap f) (hp : n = 0 ∨ ∀ b off, a = some ⟨b, off, none⟩ → ¬ P b) : Rd w' a n cap f := by
  obtain ⟨h1, h2, h3⟩ := hr
  refine ⟨h1, h2, ?_⟩
  rcases h3 with h0 | ⟨b, off, he, hlt, hc⟩
  · exact .inl h0
  · rcases hp with h0 | hp
    · exact .inl h0
    · refine .inr ⟨b, off, he, Nat.lt_of_lt_of_le hlt h.size, fun i hi => ?_⟩
      have hn := hp b off he
      obtain ⟨c0, c1, c2, c3, c4⟩ := hc i hi
      exact ⟨(h.cell hlt hn).trans c0, (h.cell hlt hn).trans c1, (h.cell hlt hn).trans c2, (h.cell hlt hn).trans c3, (h.cell hlt hn).trans c4⟩
theorem Fr.c5 {P : Nat → Prop} {w w' : World} (h : Fr P w w') {b : Nat} {t : T} (hc : C5 w b t) (hp : ¬ P b) : C5 w' b t := by
  have hlt := hc.lt
  obtain ⟨c0, c1, c2, c3, c4⟩ := hc
  exact ⟨(h.cell hlt hp).trans c0, (h.cell hlt hp).trans c1, (h.cell hlt hp).trans c2, (h.cell hlt hp).trans c3, (h.cell hlt hp).trans c4⟩
theorem Fr.below {P : Nat → Prop} {lo : Nat} {u w w' : World} (hb : Below lo u w) (h : Fr P w w') (hp : ∀ k, P k → lo ≤ k) (hlo : lo ≤ u.heap.size) : Below lo u w' :=
  ⟨h.os.trans hb.os, h.tape.trans hb.tape, h.output.trans hb.output, Nat.le_trans hb.size h.size, fun k hk => (h.block k (Nat.lt_of_lt_of_le hk (Nat.le_trans hlo hb.size)) (fun e => by have := hp k e; omega)).trans (hb.block k hk)⟩
theorem Fr.owns {P : Nat → Prop} {w w' : World} (h : Fr P w w') {lo : Nat} {e : TypeId} {size : Nat} {v : Value} {n : Nat} {xs : List Value} (ho : w.ownsRow lo e size v n xs) (hp : ∀ g, v.ownBlock = some g → ¬ P g) : w'.ownsRow lo e size v n xs := by
  refine ⟨ho.1, ho.2.imp id ?_⟩
  rintro ⟨g, cap, cur, hv, hlo, hgg, hn, hm, hs, ht⟩
  refine ⟨g, cap, cur, hv, hlo, ?_, hn, hm, hs, ht⟩
  have hlt : g < w.heap.size := (Array.getElem?_eq_some_iff.1 hgg).1
  exact (h.block g hlt (hp g (by rw [hv]; rfl))).trans hgg
theorem sc_same {w : World} {a : Addr} {v u : Value} (h : w.cell? a = some u) : (w.setCell a v).cell? a = some v := World.cell?_setCell_same (w := w) (a := a) (v := v) h
theorem sc_other {w : World} {a b : Addr} {v : Value} (h : a ≠ b) : (w.setCell a v).cell? b = w.cell? b := World.cell?_setCell_other (w := w) (a := a) (b := b) (v := v) h
/-! pairs, as they come -/
def nxP (q : Nat × Nat) : Nat × Nat := if q.1 + 1 < q.2 then (q.1 + 1, q.2) else (0, q.2 + 1)
def pq : Nat → Nat × Nat
  | 0 => (0, 1)
  | j + 1 => nxP (pq j)
def tri : Nat → Nat
  | 0 => 0
  | k + 1 => tri k + k
theorem pq_tri : ∀ k i, i < k → pq (tri k + i) = (i, k)
  | 0, i, h => by omega
  | 1, i, h => by
    obtain rfl : i = 0 := by omega
    rfl
  | k + 2, 0, _ => by
    have := pq_tri (k + 1) k (by omega)
    show pq (tri (k + 1) + (k + 1)) = (0, k + 2)
    rw [show tri (k + 1) + (k + 1) = (tri (k + 1) + k) + 1 by omega]
    show nxP (pq (tri (k + 1) + k)) = _
    rw [this]
    unfold nxP
    rw [if_neg (by simp)]
  | k + 2, i + 1, h => by
    have := pq_tri (k + 2) i (by omega)
    rw [show tri (k + 2) + (i + 1) = (tri (k + 2) + i) + 1 by omega]
    show nxP (pq (tri (k + 2) + i)) = _
    rw [this]
    unfold nxP
    rw [if_pos (by simpa using h)]
theorem tri_mono {a b : Nat} (h : a ≤ b) : tri a ≤ tri b := by
  induction b with
  | zero => obtain rfl : a = 0 := by omega
            exact Nat.le_refl _
  | succ b ih =>
    rcases Nat.lt_or_ge a (b + 1) with h' | h'
    · have := ih (by omega); show tri a ≤ tri b + b; omega
    · obtain rfl : a = b + 1 := by omega
      exact Nat.le_refl _
theorem tri_at : ∀ (m j : Nat), j < tri m → ∃ k i, k < m ∧ i < k ∧ j = tri k + i
  | 0, j, h => absurd h (Nat.not_lt_zero _)
  | m + 1, j, h => by
    rcases Nat.lt_or_ge j (tri m) with h' | h'
    · obtain ⟨k, i, h1, h2, h3⟩ := tri_at m j h'
      exact ⟨k, i, by omega, h2, h3⟩
    · have h : j < tri m + m := h
      exact ⟨m, j - tri m, by omega, by omega, by omega⟩
abbrev vi (z : Int) : Value := .int .i64 z
theorem neQ {Q z z' : Nat} (h : z ≠ z') : (⟨Q, z, none⟩ : Addr) ≠ ⟨Q, z', none⟩ := fun e => h (by injection e)
end Go.Proofs.YtmlaedpamobmhaaGreat
