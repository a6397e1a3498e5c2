/-
  An order, an operator and others are drawn; RedAll of them as lists.
  What is left of a pair of operators: what is true of it.
  Whether operators are a basis: pair by pair; the model's GrbOk.
-/
import Derived.Test.YtdidlcjhodejjaaGreatGbf
import Derived.Test.YtdidlcjhodejjaaGreatGbg
import Derived.Test.YtdidlcjhodejjaaGreatGbo
import Derived.Test.YtdidlcjhodejjaaGreatGbm
import Derived.Test.YtdidlcjhodejjaaGreatGbh
import Derived.Test.YtdidlcjhodejjaaGreatGbn
import Derived.Test.YtdidlcjhodejjaaGreatGbd
import Derived.Test.YtdidlcjhodejjaaGreatGbe
namespace Go.Proofs.YtdidlcjhodejjaaGreat
open Go.RowKit Go.Deep Go.Joins
set_option linter.unusedVariables false

def Red3 (w : World) (n : Nat) (R : Option Dv) (e : Ending) (w' : World) : Prop := ∃ qa qc ad cp la lc, e = .returned (.tuple #[.slice qa (resN n R) qc, .slice la (resL R).length lc, .bool R.isSome]) ∧ Below w.heap.size w w' ∧ RdS w' qa (resN n R) qc ad (lN (resQ R)) cp (fN (resQ R)) ∧ RL w' la lc (resL R)
theorem redI_L {w : World} {o : Int} {pa : Option Addr} {pc : Nat} {p : List T} {a : Option Addr} {n cap : Nat} {ad : Nat → Option Addr} {cp : Nat → Nat} {L : Nat → List T} (hp : RL w pa pc p) (h : RdS w a n cap ad (lN L) cp (fN L)) {R : Option Dv} (hR : redAll o p n (lN L) (fN L) = R) : Calls Tryz.prog 69 #[.int .i64 o, .slice pa p.length pc, .slice a n cap] w (Red3 w n R) :=
  (redAllI' w o pa pc p a n cap ad (lN L) cp (fN L) hp h hR).mono fun e w' ⟨qa, qc, ad, cp, Rb, B, la, lc, mid, he, hb, h1, h2, _⟩ => ⟨qa, qc, ad, cp, la, lc, he, hb, h1.rd, h2.1⟩
theorem redS_L {w : World} {o : Int} {pa : Option Addr} {pc : Nat} {p : List T} {a : Option Addr} {n cap : Nat} {ad : Nat → Option Addr} {cp : Nat → Nat} {L : Nat → List T} (hp : RL w pa pc p) (h : RdS w a n cap ad (lN L) cp (fN L)) {R : Option Dv} (hR : redAll o p n (lN L) (fN L) = R) : Calls Tryz.prog 70 #[.int .i64 o, .slice pa p.length pc, .slice a n cap] w (Red3 w n R) :=
  (redAllS w o pa pc p a n cap ad (lN L) cp (fN L) hp h hR).mono fun e w' ⟨qa, qc, ad, cp, la, lc, he, hb, h1, h2⟩ => ⟨qa, qc, ad, cp, la, lc, he, hb, h1, h2⟩
theorem redI_yes {w : World} {o : Int} {pa : Option Addr} {pc : Nat} {p : List T} {a : Option Addr} {n cap : Nat} {ad : Nat → Option Addr} {cp : Nat → Nat} {L : Nat → List T} (hp : RL w pa pc p) (h : RdS w a n cap ad (lN L) cp (fN L)) {S : Dv} (hR : redAll o p n (lN L) (fN L) = some S) : Calls Tryz.prog 69 #[.int .i64 o, .slice pa p.length pc, .slice a n cap] w fun e w' => ∃ qa qc ad cp la lc, e = .returned (.tuple #[.slice qa n qc, .slice la S.r.length lc, .bool true]) ∧ Below w.heap.size w w' ∧ RdS w' qa n qc ad (lN S.q) cp (fN S.q) ∧ RL w' la lc S.r := redI_L hp h hR
theorem redI_no {w : World} {o : Int} {pa : Option Addr} {pc : Nat} {p : List T} {a : Option Addr} {n cap : Nat} {ad : Nat → Option Addr} {cp : Nat → Nat} {L : Nat → List T} (hp : RL w pa pc p) (h : RdS w a n cap ad (lN L) cp (fN L)) (hR : redAll o p n (lN L) (fN L) = none) : Calls Tryz.prog 69 #[.int .i64 o, .slice pa p.length pc, .slice a n cap] w fun e w' => ∃ qa qc ad cp la lc, e = .returned (.tuple #[.slice qa 0 qc, .slice la 0 lc, .bool false]) ∧ Below w.heap.size w w' ∧ RdS w' qa 0 qc ad (lN (fun _ => [])) cp (fN (fun _ => [])) ∧ RL w' la lc [] := redI_L hp h hR
theorem redS_yes {w : World} {o : Int} {pa : Option Addr} {pc : Nat} {p : List T} {a : Option Addr} {n cap : Nat} {ad : Nat → Option Addr} {cp : Nat → Nat} {L : Nat → List T} (hp : RL w pa pc p) (h : RdS w a n cap ad (lN L) cp (fN L)) {S : Dv} (hR : redAll o p n (lN L) (fN L) = some S) : Calls Tryz.prog 70 #[.int .i64 o, .slice pa p.length pc, .slice a n cap] w fun e w' => ∃ qa qc ad cp la lc, e = .returned (.tuple #[.slice qa n qc, .slice la S.r.length lc, .bool true]) ∧ Below w.heap.size w w' ∧ RdS w' qa n qc ad (lN S.q) cp (fN S.q) ∧ RL w' la lc S.r := redS_L hp h hR
theorem redS_no {w : World} {o : Int} {pa : Option Addr} {pc : Nat} {p : List T} {a : Option Addr} {n cap : Nat} {ad : Nat → Option Addr} {cp : Nat → Nat} {L : Nat → List T} (hp : RL w pa pc p) (h : RdS w a n cap ad (lN L) cp (fN L)) (hR : redAll o p n (lN L) (fN L) = none) : Calls Tryz.prog 70 #[.int .i64 o, .slice pa p.length pc, .slice a n cap] w fun e w' => ∃ qa qc ad cp la lc, e = .returned (.tuple #[.slice qa 0 qc, .slice la 0 lc, .bool false]) ∧ Below w.heap.size w w' ∧ RdS w' qa 0 qc ad (lN (fun _ => [])) cp (fN (fun _ => [])) ∧ RL w' la lc [] := redS_L hp h hR
theorem freeI_S (o : Int) {w : World} {pa : Option Addr} {pc : Nat} {p : List T} (hp : RL w pa pc p) {a : Option Addr} {n cap : Nat} {ad : Nat → Option Addr} {ln cp : Nat → Nat} {f : Nat → Nat → T} (h : RdS w a n cap ad ln cp f) : Calls Tryz.prog 35 #[.int .i64 o, .slice pa p.length pc, .slice a n cap] w (Val w (.bool (redFree o p.length (lf p) n ln f))) := redFreeI w o pa p.length pc (lf p) hp a n cap ad ln cp f h
def RedD (w : World) (e : Ending) (w' : World) : Prop := ∃ (o : Int) (pa : Option Addr) (pc : Nat) (p : List T) (a : Option Addr) (n c : Nat) (ad : Nat → Option Addr) (cp : Nat → Nat) (L : Nat → List T), e = .returned (.tuple #[.int .i64 o, .slice pa p.length pc, .slice a n c]) ∧ RL w' pa pc p ∧ RdS w' a n c ad (lN L) cp (fN L) ∧ p.length ≤ 5 ∧ n ≤ 5 ∧ Below w.heap.size w w'
theorem RedD.mk {w w' : World} {o : Int} {pa : Option Addr} {n pc : Nat} {f : Nat → T} {a : Option Addr} {m c : Nat} {ad : Nat → Option Addr} {ln cp : Nat → Nat} {g : Nat → Nat → T} (h1 : Rd w' pa n pc f) (h2 : RdS w' a m c ad ln cp g) (h3 : n ≤ 5) (h4 : m ≤ 5) (hb : Below w.heap.size w w') : RedD w (.returned (.tuple #[.int .i64 o, .slice pa n pc, .slice a m c])) w' := by
  obtain ⟨p, rfl, hp⟩ := list_of h1
  obtain ⟨L, rfl, hL⟩ := rds_lists h2
  exact ⟨o, pa, pc, p, a, m, c, ad, cp, L, rfl, hp, hL, h3, h4, hb⟩
end Go.Proofs.YtdidlcjhodejjaaGreat
namespace Go.Proofs.YtdidlcjhodejjaaGreat
open Go.RowKit
set_option linter.unusedVariables false

theorem coef_ne_mem1 {m : M} : ∀ {L : List T}, coef L m ≠ 0 → ∃ t ∈ L, t.m = m
  | [], h => absurd rfl h
  | t :: r, h => by
    rw [coef] at h
    split at h
    · rename_i he
      exact ⟨t, List.mem_cons_self .., meqB_iff.1 he⟩
    · obtain ⟨s, hs, e⟩ := coef_ne_mem1 h
      exact ⟨s, List.mem_cons_of_mem _ hs, e⟩
theorem mem_coef1 {L : List T} (h : Falls L) {t : T} (ht : t ∈ L) : coef L t.m = t.c ∧ coef L t.m ≠ 0 := by
  have h1 : coef L t.m = t.c := by
    induction L with
    | nil => cases ht
    | cons s r ih =>
      rw [coef]
      rcases List.mem_cons.1 ht with rfl | ht'
      · rw [if_pos (meqB_iff.2 rfl)]
      · have h1 := h.head t ht'
        rw [if_neg (fun e => by rw [meqB_iff.1 e] at h1; omega)]
        exact ih h.tail ht'
  have h2 := h.2 t ht
  exact ⟨h1, by omega⟩
theorem mul_okM {a c b : M} (h : M.mul a c = (b, true)) : b.ok = true := by
  unfold M.mul at h
  split at h
  · rename_i q; cases h; exact q.2.2
  · cases h
theorem sprPoly_parts {o : Int} {A B L : List T} (h : sprPoly o (lf A) A.length (lf B) B.length = (L, true)) :
    sprOk o A.length (lf A) B.length (lf B) = true ∧ ∃ X Y, wmV [sprU o A.length (lf A) B.length (lf B)] A = (X, true) ∧ wmV [sprV o A.length (lf A) B.length (lf B)] B = (Y, true) ∧ okL X = true ∧ okL Y = true ∧ L = subL X Y ∧ L.length ≤ 400 := by
  unfold sprPoly at h
  by_cases hk : sprOk o A.length (lf A) B.length (lf B) = true
  · refine ⟨hk, ?_⟩
    rw [if_pos hk] at h
    unfold diffV at h
    by_cases h2 : (wylMul (lf [sprU o A.length (lf A) B.length (lf B)]) 1 (lf A) A.length).2 = true ∧ (wylMul (lf [sprV o A.length (lf A) B.length (lf B)]) 1 (lf B) B.length).2 = true
    · rw [if_pos h2] at h
      obtain ⟨X, hX⟩ : ∃ X, wmV [sprU o A.length (lf A) B.length (lf B)] A = (X, true) := by
        rcases wmV_if [sprU o A.length (lf A) B.length (lf B)] A with e | e
        · exact absurd h2.1 (by rw [show wylMul (lf [sprU o A.length (lf A) B.length (lf B)]) 1 (lf A) A.length = ([], false) from e]; simp)
        · exact e
      obtain ⟨Y, hY⟩ : ∃ Y, wmV [sprV o A.length (lf A) B.length (lf B)] B = (Y, true) := by
        rcases wmV_if [sprV o A.length (lf A) B.length (lf B)] B with e | e
        · exact absurd h2.2 (by rw [show wylMul (lf [sprV o A.length (lf A) B.length (lf B)]) 1 (lf B) B.length = ([], false) from e]; simp)
        · exact e
      rw [show wylMul (lf [sprU o A.length (lf A) B.length (lf B)]) 1 (lf A) A.length = (X, true) from hX, show wylMul (lf [sprV o A.length (lf A) B.length (lf B)]) 1 (lf B) B.length = (Y, true) from hY] at h
      rcases subV_case X Y with e | ⟨_, _, hl, e⟩
      · rw [show polSub (lf X) X.length (lf Y) Y.length = ([], false) from e] at h
        cases h
      · rw [show polSub (lf X) X.length (lf Y) Y.length = (subL X Y, true) from e] at h
        have hL : subL X Y = L := by cases h; rfl
        exact ⟨X, Y, hX, hY, wm_ok hX, wm_ok hY, hL.symm, by rw [← hL]; exact hl⟩
    · rw [if_neg h2] at h; cases h
  · rw [if_neg hk] at h; cases h
theorem sprPoly_of {o : Int} {A B X Y : List T} (hk : sprOk o A.length (lf A) B.length (lf B) = true) (hX : wmV [sprU o A.length (lf A) B.length (lf B)] A = (X, true)) (hY : wmV [sprV o A.length (lf A) B.length (lf B)] B = (Y, true)) : sprPoly o (lf A) A.length (lf B) B.length = subV X Y := by
  unfold sprPoly diffV
  rw [if_pos hk, show wylMul (lf [sprU o A.length (lf A) B.length (lf B)]) 1 (lf A) A.length = (X, true) from hX, show wylMul (lf [sprV o A.length (lf A) B.length (lf B)]) 1 (lf B) B.length = (Y, true) from hY]
  exact if_pos ⟨rfl, rfl⟩
theorem sprOk_comm (o : Int) (n : Nat) (f : Nat → T) (m : Nat) (g : Nat → T) : sprOk o m g n f = sprOk o n f m g := by
  unfold sprOk; rw [Bool.and_comm]
theorem sprU_swap (o : Int) (n : Nat) (f : Nat → T) (m : Nat) (g : Nat → T) : sprU o m g n f = sprV o n f m g := by
  unfold sprU sprV sprB; rw [sprOk_comm, M.both_comm]
theorem sprV_swap (o : Int) (n : Nat) (f : Nat → T) (m : Nat) (g : Nat → T) : sprV o m g n f = sprU o n f m g := by
  unfold sprU sprV sprB; rw [sprOk_comm, M.both_comm]
/-- the other way round it is less than 0. -/
theorem spr_swap {o : Int} {A B L : List T} (h : sprPoly o (lf A) A.length (lf B) B.length = (L, true)) : sprPoly o (lf B) B.length (lf A) A.length = (scL 100 L, true) := by
  obtain ⟨hk, X, Y, hX, hY, oX, oY, rfl, hl⟩ := sprPoly_parts h
  have hk' : sprOk o B.length (lf B) A.length (lf A) = true := by rw [sprOk_comm]; exact hk
  rw [sprPoly_of hk' (by rw [sprU_swap]; exact hY) (by rw [sprV_swap]; exact hX)]
  have e := sub_swap (okL_falls oX).2 (okL_falls oY).2
  rw [subV_ok oY oX (by rw [e, scL_len]; exact hl), e]
theorem spr_ok {o : Int} {A B L : List T} (h : sprPoly o (lf A) A.length (lf B) B.length = (L, true)) : okL L = true := by
  obtain ⟨hk, X, Y, hX, hY, oX, oY, rfl, hl⟩ := sprPoly_parts h
  exact okL_of hl (subL_facts (okL_falls oX).2 (okL_falls oY).2).1
/-- of one and itself nothing is left. -/
theorem spr_self (o : Int) (A : List T) : (sprPoly o (lf A) A.length (lf A) A.length).1 = [] := by
  obtain ⟨L, b, h⟩ : ∃ L b, sprPoly o (lf A) A.length (lf A) A.length = (L, b) := ⟨_, _, rfl⟩
  rw [h]
  cases b
  · unfold sprPoly diffV at h
    split at h
    · split at h
      · rcases subV_case (wylMul (lf [sprU o A.length (lf A) A.length (lf A)]) 1 (lf A) A.length).1 (wylMul (lf [sprV o A.length (lf A) A.length (lf A)]) 1 (lf A) A.length).1 with e | ⟨_, _, _, e⟩
        · have := h.symm.trans (show polSub _ _ _ _ = ([], false) from e); cases this; rfl
        · have := h.symm.trans (show polSub _ _ _ _ = (_, true) from e); cases this
      · cases h; rfl
    · cases h; rfl
  · obtain ⟨hk, X, Y, hX, hY, oX, oY, rfl, hl⟩ := sprPoly_parts h
    have hUV : sprU o A.length (lf A) A.length (lf A) = sprV o A.length (lf A) A.length (lf A) := by unfold sprU sprV; rfl
    rw [hUV, hY] at hX
    have : Y = X := by cases hX; rfl
    subst this
    exact sub_self (okL_falls oX).2
theorem top_prod {o : Int} {u : T} {A X : List T} (gu : u.m.ok = true ∧ 1 ≤ u.c ∧ u.c ≤ 100) (hA : ldB o A = true) (h : wmV [u] A = (X, true)) {b : M} (hb : M.mul u.m (ldT o A).m = (b, true)) (hc : fMul u.c (ldT o A).c = 1) :
    coef X b = 1 ∧ ∀ t ∈ X, rkW o t.m ≤ rkW o b := by
  obtain ⟨ho, oA, _⟩ := ldB_iff.1 hA
  have hu : ldB o [u] = true := ldB_iff.2 ⟨ho, one_ok gu, by simp⟩
  obtain ⟨e1, e2⟩ := ld_prod ho h
  rw [hu, hA] at e1
  have hX : ldB o X = true := e1
  obtain ⟨e3, e4⟩ := e2 hu hA
  have eu : ldT o [u] = u := by
    have := (ld_top hu).1
    simpa using this
  rw [eu] at e3 e4
  have eb : (ldT o X).m = b := by
    have := e3.symm.trans (show M.mul ⟨u.m.x, u.m.y, u.m.d, u.m.e⟩ ⟨(ldT o A).m.x, (ldT o A).m.y, (ldT o A).m.d, (ldT o A).m.e⟩ = (b, true) from hb)
    cases this; rfl
  obtain ⟨t1, t2⟩ := ld_top hX
  have hm := (mem_coef1 (okL_falls (wm_ok h)).2 t1).1
  rw [eb] at t2 hm
  refine ⟨?_, t2⟩
  rw [hm, ← e4, hc]
/-- no monomial of it is as great as what both greatest ones divide. -/
theorem spr_below {o : Int} {A B L : List T} (h : sprPoly o (lf A) A.length (lf B) B.length = (L, true)) : ∀ t ∈ L, M.cmp o t.m (sprB o A.length (lf A) B.length (lf B)) < 0 := by
  obtain ⟨hk, X, Y, hX, hY, oX, oY, rfl, hl⟩ := sprPoly_parts h
  obtain ⟨gU, gV⟩ := spr_good hk
  obtain ⟨m1, m2, c1, c2, _⟩ := spr_law hk
  have hk' := hk
  unfold sprOk at hk'
  rw [Bool.and_eq_true] at hk'
  obtain ⟨x1, x2⟩ := top_prod gU (show ldB o A = true from hk'.1) hX m1 c1
  obtain ⟨y1, y2⟩ := top_prod gV (show ldB o B = true from hk'.2) hY m2 c2
  have fX := (okL_falls oX).2
  have fY := (okL_falls oY).2
  obtain ⟨fL, cL⟩ := subL_facts fX fY
  have ho := (leadOk_parts hk'.1).1
  have hbok : (sprB o A.length (lf A) B.length (lf B)).ok = true := mul_okM m1
  generalize sprB o A.length (lf A) B.length (lf B) = b at *
  intro t ht
  have tok := (fL.2 t ht).1
  obtain ⟨q1, q2⟩ := mem_coef1 fL ht
  have hne : t.m ≠ b := fun e => by
    apply q2
    rw [e, cL b, x1, y1]
    decide
  have hle : rkW o t.m ≤ rkW o b := by
    by_cases hx : coef X t.m = 0
    · by_cases hy : coef Y t.m = 0
      · exact absurd (by rw [cL, hx, hy]; decide) q2
      · obtain ⟨s, hs, e⟩ := coef_ne_mem1 hy
        rw [← e]; exact y2 s hs
    · obtain ⟨s, hs, e⟩ := coef_ne_mem1 hx
      rw [← e]; exact x2 s hs
  have hlt : rkW o t.m ≠ rkW o b := fun e => hne (rkW_inj _ _ tok hbok e)
  unfold M.cmp
  rw [if_pos ⟨ho, tok, hbok⟩, rkW_ord ho tok hbok]
  unfold c3
  split
  · omega
  · split <;> omega
end Go.Proofs.YtdidlcjhodejjaaGreat
namespace Go.Proofs.YtdidlcjhodejjaaGreat
open Go.RowKit Go.Deep Go.Joins
set_option linter.unusedVariables false

/-- what is left of a pair: 0: too much; 1: something; 2: nothing. -/
def prK (o : Int) (n : Nat) (L : Nat → List T) (i k : Nat) : Nat :=
  match sprPoly o (lf (L i)) (L i).length (lf (L k)) (L k).length with
  | (s, true) => (match redAll o s n (lN L) (fN L) with
    | some S => if S.r.length = 0 then 2 else 1
    | none => 0)
  | (_, false) => 0
def grbOk (o : Int) (n : Nat) (L : Nat → List T) : Bool := decide ((1 ≤ o ∧ o ≤ 3) ∧ lstOk n (lN L) (fN L) = true ∧ ∀ k, k < n → ∀ i, i < k → prK o n L i k = 2)
theorem prK_no {o : Int} {n : Nat} {L : Nat → List T} {i k : Nat} {s : List T} (h : sprPoly o (lf (L i)) (L i).length (lf (L k)) (L k).length = (s, false)) : prK o n L i k = 0 := by unfold prK; rw [h]
theorem prK_none {o : Int} {n : Nat} {L : Nat → List T} {i k : Nat} {s : List T} (h : sprPoly o (lf (L i)) (L i).length (lf (L k)) (L k).length = (s, true)) (hr : redAll o s n (lN L) (fN L) = none) : prK o n L i k = 0 := by unfold prK; rw [h]; simp only [hr]
theorem prK_some {o : Int} {n : Nat} {L : Nat → List T} {i k : Nat} {s : List T} {S : Dv} (h : sprPoly o (lf (L i)) (L i).length (lf (L k)) (L k).length = (s, true)) (hr : redAll o s n (lN L) (fN L) = some S) : prK o n L i k = if S.r.length = 0 then 2 else 1 := by unfold prK; rw [h]; simp only [hr]
theorem redAll_is {o : Int} {p : List T} {n : Nat} {L : Nat → List T} (ho : 1 ≤ o ∧ o ≤ 3) (hp : okL p = true) (hl : lstOk n (lN L) (fN L) = true) : redAll o p n (lN L) (fN L) = dvRun o n (lN L) (fN L) 300 (dvOf p) := if_pos ⟨ho, hp, hl⟩
theorem grbOk_bad {o : Int} {n : Nat} {L : Nat → List T} {i k : Nat} (hk : k < n) (hi : i < k) (h : prK o n L i k ≠ 2) : grbOk o n L = false := decide_eq_false (fun hh => h (hh.2.2 k hk i hi))
theorem sprS_L2 {w : World} (o : Int) {a b : Option Addr} {ca cb : Nat} {A B : List T} (ha : RL w a ca A) (hb : RL w b cb B) : Calls Tryz.prog 137 #[.int .i64 o, .slice a A.length ca, .slice b B.length cb] w (Two2 w (sprPoly o (lf A) A.length (lf B) B.length)) :=
  (sprPolyS w o a b A.length ca B.length cb (lf A) (lf B) ha hb).mono fun _ _ h => two_owns (sprPoly_len _ _ _ _ _) h
abbrev C2g (p1 o1 p2 o2 : Nat) (v1 v2 : Value) (u : World) : Prop := u.cell? ⟨p1, o1, none⟩ = some v1 ∧ u.cell? ⟨p2, o2, none⟩ = some v2
theorem C2g.below {p1 o1 p2 o2 : Nat} {v1 v2 : Value} {u u' : World} (h : C2g p1 o1 p2 o2 v1 v2 u) (hb : Below u.heap.size u u') : C2g p1 o1 p2 o2 v1 v2 u' :=
  ⟨(hb.cell (p := ⟨p1, o1, none⟩) (World.block_lt_of_cell? u _ h.1)).trans h.1, (hb.cell (p := ⟨p2, o2, none⟩) (World.block_lt_of_cell? u _ h.2)).trans h.2⟩
end Go.Proofs.YtdidlcjhodejjaaGreat
