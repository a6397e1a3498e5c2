/-
  What is left of a pair of operators: what is true of it.
  Whether operators are a basis: pair by pair; the model's GrbOk.
  The pairs that are to be looked at: a queue of pointers; one is put behind all, one is taken away.
-/
import Derived.Test.YtmlaedpamobmhaaGreatGbd
import Derived.Test.YtmlaedpamobmhaaGreatGbe
import Derived.Test.YtmlaedpamobmhaaGreatGbm
import Derived.Test.YtmlaedpamobmhaaGreatGbo
import Derived.Test.YtmlaedpamobmhaaGreatGbc
import Derived.Deep.RegionHeld3
namespace Go.Proofs.YtmlaedpamobmhaaGreat
open Go.RowKit
set_option linter.unusedVariables false

theorem coef_ne_mem1 {m : M} : ∀ {L : List T}, coef L m ≠ 0 → ∃ t ∈ L, t.m = m
  | [], h => absurd rfl h
  | t :: r, h => by
    rw [coef] at h
    split at h
    · rename_i he
      exact ⟨t, List.mem_cons_self .., meqB_iff.1 he⟩
    · obtain ⟨s, hs, e⟩ := coef_ne_mem1 h
      exact ⟨s, List.mem_cons_of_mem _ hs, e⟩
theorem mem_coef1 {L : List T} (h : Falls L) {t : T} (ht : t ∈ L) : coef L t.m = t.c ∧ coef L t.m ≠ 0 := by
  have h1 : coef L t.m = t.c := by
    induction L with
    | nil => cases ht
    | cons s r ih =>
      rw [coef]
      rcases List.mem_cons.1 ht with rfl | ht'
      · rw [if_pos (meqB_iff.2 rfl)]
      · have h1 := h.head t ht'
        rw [if_neg (fun e => by rw [meqB_iff.1 e] at h1; omega)]
        exact ih h.tail ht'
  have h2 := h.2 t ht
  exact ⟨h1, by omega⟩
theorem mul_okM {a c b : M} (h : M.mul a c = (b, true)) : b.ok = true := by
  unfold M.mul at h
  split at h
  · rename_i q; cases h; exact q.2.2
  · cases h
theorem sprPoly_parts {o : Int} {A B L : List T} (h : sprPoly o (lf A) A.length (lf B) B.length = (L, true)) :
    sprOk o A.length (lf A) B.length (lf B) = true ∧ ∃ X Y, wmV [sprU o A.length (lf A) B.length (lf B)] A = (X, true) ∧ wmV [sprV o A.length (lf A) B.length (lf B)] B = (Y, true) ∧ okL X = true ∧ okL Y = true ∧ L = subL X Y ∧ L.length ≤ 400 := by
  unfold sprPoly at h
  by_cases hk : sprOk o A.length (lf A) B.length (lf B) = true
  · refine ⟨hk, ?_⟩
    rw [if_pos hk] at h
    unfold diffV at h
    by_cases h2 : (wylMul (lf [sprU o A.length (lf A) B.length (lf B)]) 1 (lf A) A.length).2 = true ∧ (wylMul (lf [sprV o A.length (lf A) B.length (lf B)]) 1 (lf B) B.length).2 = true
    · rw [if_pos h2] at h
      obtain ⟨X, hX⟩ : ∃ X, wmV [sprU o A.length (lf A) B.length (lf B)] A = (X, true) := by
        rcases wmV_if [sprU o A.length (lf A) B.length (lf B)] A with e | e
        · exact absurd h2.1 (by rw [show wylMul (lf [sprU o A.length (lf A) B.length (lf B)]) 1 (lf A) A.length = ([], false) from e]; simp)
        · exact e
      obtain ⟨Y, hY⟩ : ∃ Y, wmV [sprV o A.length (lf A) B.length (lf B)] B = (Y, true) := by
        rcases wmV_if [sprV o A.length (lf A) B.length (lf B)] B with e | e
        · exact absurd h2.2 (by rw [show wylMul (lf [sprV o A.length (lf A) B.length (lf B)]) 1 (lf B) B.length = ([], false) from e]; simp)
        · exact e
      rw [show wylMul (lf [sprU o A.length (lf A) B.length (lf B)]) 1 (lf A) A.length = (X, true) from hX, show wylMul (lf [sprV o A.length (lf A) B.length (lf B)]) 1 (lf B) B.length = (Y, true) from hY] at h
      rcases subV_case X Y with e | ⟨_, _, hl, e⟩
      · rw [show polSub (lf X) X.length (lf Y) Y.length = ([], false) from e] at h
        cases h
      · rw [show polSub (lf X) X.length (lf Y) Y.length = (subL X Y, true) from e] at h
        have hL : subL X Y = L := by cases h; rfl
        exact ⟨X, Y, hX, hY, wm_ok hX, wm_ok hY, hL.symm, by rw [← hL]; exact hl⟩
    · rw [if_neg h2] at h; cases h
  · rw [if_neg hk] at h; cases h
theorem sprPoly_of {o : Int} {A B X Y : List T} (hk : sprOk o A.length (lf A) B.length (lf B) = true) (hX : wmV [sprU o A.length (lf A) B.length (lf B)] A = (X, true)) (hY : wmV [sprV o A.length (lf A) B.length (lf B)] B = (Y, true)) : sprPoly o (lf A) A.length (lf B) B.length = subV X Y := by
  unfold sprPoly diffV
  rw [if_pos hk, show wylMul (lf [sprU o A.length (lf A) B.length (lf B)]) 1 (lf A) A.length = (X, true) from hX, show wylMul (lf [sprV o A.length (lf A) B.length (lf B)]) 1 (lf B) B.length = (Y, true) from hY]
  exact if_pos ⟨rfl, rfl⟩
theorem sprOk_comm (o : Int) (n : Nat) (f : Nat → T) (m : Nat) (g : Nat → T) : sprOk o m g n f = sprOk o n f m g := by
  unfold sprOk; rw [Bool.and_comm]
theorem sprU_swap (o : Int) (n : Nat) (f : Nat → T) (m : Nat) (g : Nat → T) : sprU o m g n f = sprV o n f m g := by
  unfold sprU sprV sprB; rw [sprOk_comm, M.both_comm]
theorem sprV_swap (o : Int) (n : Nat) (f : Nat → T) (m : Nat) (g : Nat → T) : sprV o m g n f = sprU o n f m g := by
  unfold sprU sprV sprB; rw [sprOk_comm, M.both_comm]
/-- the other way round it is less than 0. -/
theorem spr_swap {o : Int} {A B L : List T} (h : sprPoly o (lf A) A.length (lf B) B.length = (L, true)) : sprPoly o (lf B) B.length (lf A) A.length = (scL 100 L, true) := by
  obtain ⟨hk, X, Y, hX, hY, oX, oY, rfl, hl⟩ := sprPoly_parts h
  have hk' : sprOk o B.length (lf B) A.length (lf A) = true := by rw [sprOk_comm]; exact hk
  rw [sprPoly_of hk' (by rw [sprU_swap]; exact hY) (by rw [sprV_swap]; exact hX)]
  have e := sub_swap (okL_falls oX).2 (okL_falls oY).2
  rw [subV_ok oY oX (by rw [e, scL_len]; exact hl), e]
theorem spr_ok {o : Int} {A B L : List T} (h : sprPoly o (lf A) A.length (lf B) B.length = (L, true)) : okL L = true := by
  obtain ⟨hk, X, Y, hX, hY, oX, oY, rfl, hl⟩ := sprPoly_parts h
  exact okL_of hl (subL_facts (okL_falls oX).2 (okL_falls oY).2).1
/-- of one and itself nothing is left. -/
theorem spr_self (o : Int) (A : List T) : (sprPoly o (lf A) A.length (lf A) A.length).1 = [] := by
  obtain ⟨L, b, h⟩ : ∃ L b, sprPoly o (lf A) A.length (lf A) A.length = (L, b) := ⟨_, _, rfl⟩
  rw [h]
  cases b
  · unfold sprPoly diffV at h
    split at h
    · split at h
      · rcases subV_case (wylMul (lf [sprU o A.length (lf A) A.length (lf A)]) 1 (lf A) A.length).1 (wylMul (lf [sprV o A.length (lf A) A.length (lf A)]) 1 (lf A) A.length).1 with e | ⟨_, _, _, e⟩
        · have := h.symm.trans (show polSub _ _ _ _ = ([], false) from e); cases this; rfl
        · have := h.symm.trans (show polSub _ _ _ _ = (_, true) from e); cases this
      · cases h; rfl
    · cases h; rfl
  · obtain ⟨hk, X, Y, hX, hY, oX, oY, rfl, hl⟩ := sprPoly_parts h
    have hUV : sprU o A.length (lf A) A.length (lf A) = sprV o A.length (lf A) A.length (lf A) := by unfold sprU sprV; rfl
    rw [hUV, hY] at hX
    have : Y = X := by cases hX; rfl
    subst this
    exact sub_self (okL_falls oX).2
theorem top_prod {o : Int} {u : T} {A X : List T} (gu : u.m.ok = true ∧ 1 ≤ u.c ∧ u.c ≤ 100) (hA : ldB o A = true) (h : wmV [u] A = (X, true)) {b : M} (hb : M.mul u.m (ldT o A).m = (b, true)) (hc : fMul u.c (ldT o A).c = 1) :
    coef X b = 1 ∧ ∀ t ∈ X, rkW o t.m ≤ rkW o b := by
  obtain ⟨ho, oA, _⟩ := ldB_iff.1 hA
  have hu : ldB o [u] = true := ldB_iff.2 ⟨ho, one_ok gu, by simp⟩
  obtain ⟨e1, e2⟩ := ld_prod ho h
  rw [hu, hA] at e1
  have hX : ldB o X = true := e1
  obtain ⟨e3, e4⟩ := e2 hu hA
  have eu : ldT o [u] = u := by
    have := (ld_top hu).1
    simpa using this
  rw [eu] at e3 e4
  have eb : (ldT o X).m = b := by
    have := e3.symm.trans (show M.mul ⟨u.m.x, u.m.y, u.m.d, u.m.e⟩ ⟨(ldT o A).m.x, (ldT o A).m.y, (ldT o A).m.d, (ldT o A).m.e⟩ = (b, true) from hb)
    cases this; rfl
  obtain ⟨t1, t2⟩ := ld_top hX
  have hm := (mem_coef1 (okL_falls (wm_ok h)).2 t1).1
  rw [eb] at t2 hm
  refine ⟨?_, t2⟩
  rw [hm, ← e4, hc]
/-- no monomial of it is as great as what both greatest ones divide. -/
theorem spr_below {o : Int} {A B L : List T} (h : sprPoly o (lf A) A.length (lf B) B.length = (L, true)) : ∀ t ∈ L, M.cmp o t.m (sprB o A.length (lf A) B.length (lf B)) < 0 := by
  obtain ⟨hk, X, Y, hX, hY, oX, oY, rfl, hl⟩ := sprPoly_parts h
  obtain ⟨gU, gV⟩ := spr_good hk
  obtain ⟨m1, m2, c1, c2, _⟩ := spr_law hk
  have hk' := hk
  unfold sprOk at hk'
  rw [Bool.and_eq_true] at hk'
  obtain ⟨x1, x2⟩ := top_prod gU (show ldB o A = true from hk'.1) hX m1 c1
  obtain ⟨y1, y2⟩ := top_prod gV (show ldB o B = true from hk'.2) hY m2 c2
  have fX := (okL_falls oX).2
  have fY := (okL_falls oY).2
  obtain ⟨fL, cL⟩ := subL_facts fX fY
  have ho := (leadOk_parts hk'.1).1
  have hbok : (sprB o A.length (lf A) B.length (lf B)).ok = true := mul_okM m1
  generalize sprB o A.length (lf A) B.length (lf B) = b at *
  intro t ht
  have tok := (fL.2 t ht).1
  obtain ⟨q1, q2⟩ := mem_coef1 fL ht
  have hne : t.m ≠ b := fun e => by
    apply q2
    rw [e, cL b, x1, y1]
    decide
  have hle : rkW o t.m ≤ rkW o b := by
    by_cases hx : coef X t.m = 0
    · by_cases hy : coef Y t.m = 0
      · exact absurd (by rw [cL, hx, hy]; decide) q2
      · obtain ⟨s, hs, e⟩ := coef_ne_mem1 hy
        rw [← e]; exact y2 s hs
    · obtain ⟨s, hs, e⟩ := coef_ne_mem1 hx
      rw [← e]; exact x2 s hs
  have hlt : rkW o t.m ≠ rkW o b := fun e => hne (rkW_inj _ _ tok hbok e)
  unfold M.cmp
  rw [if_pos ⟨ho, tok, hbok⟩, rkW_ord ho tok hbok]
  unfold c3
  split
  · omega
  · split <;> omega
end Go.Proofs.YtmlaedpamobmhaaGreat
namespace Go.Proofs.YtmlaedpamobmhaaGreat
open Go.RowKit Go.Deep Go.Joins
set_option linter.unusedVariables false

/-- what is left of a pair: 0: too much; 1: something; 2: nothing. -/
def prK (o : Int) (n : Nat) (L : Nat → List T) (i k : Nat) : Nat :=
  match sprPoly o (lf (L i)) (L i).length (lf (L k)) (L k).length with
  | (s, true) => (match redAll o s n (lN L) (fN L) with
    | some S => if S.r.length = 0 then 2 else 1
    | none => 0)
  | (_, false) => 0
def grbOk (o : Int) (n : Nat) (L : Nat → List T) : Bool := decide ((1 ≤ o ∧ o ≤ 3) ∧ lstOk n (lN L) (fN L) = true ∧ ∀ k, k < n → ∀ i, i < k → prK o n L i k = 2)
theorem prK_no {o : Int} {n : Nat} {L : Nat → List T} {i k : Nat} {s : List T} (h : sprPoly o (lf (L i)) (L i).length (lf (L k)) (L k).length = (s, false)) : prK o n L i k = 0 := by unfold prK; rw [h]
theorem prK_none {o : Int} {n : Nat} {L : Nat → List T} {i k : Nat} {s : List T} (h : sprPoly o (lf (L i)) (L i).length (lf (L k)) (L k).length = (s, true)) (hr : redAll o s n (lN L) (fN L) = none) : prK o n L i k = 0 := by unfold prK; rw [h]; simp only [hr]
theorem prK_some {o : Int} {n : Nat} {L : Nat → List T} {i k : Nat} {s : List T} {S : Dv} (h : sprPoly o (lf (L i)) (L i).length (lf (L k)) (L k).length = (s, true)) (hr : redAll o s n (lN L) (fN L) = some S) : prK o n L i k = if S.r.length = 0 then 2 else 1 := by unfold prK; rw [h]; simp only [hr]
theorem redAll_is {o : Int} {p : List T} {n : Nat} {L : Nat → List T} (ho : 1 ≤ o ∧ o ≤ 3) (hp : okL p = true) (hl : lstOk n (lN L) (fN L) = true) : redAll o p n (lN L) (fN L) = dvRun o n (lN L) (fN L) 300 (dvOf p) := if_pos ⟨ho, hp, hl⟩
theorem grbOk_bad {o : Int} {n : Nat} {L : Nat → List T} {i k : Nat} (hk : k < n) (hi : i < k) (h : prK o n L i k ≠ 2) : grbOk o n L = false := decide_eq_false (fun hh => h (hh.2.2 k hk i hi))
theorem sprS_L2 {w : World} (o : Int) {a b : Option Addr} {ca cb : Nat} {A B : List T} (ha : RL w a ca A) (hb : RL w b cb B) : Calls Tryz.prog 56 #[.int .i64 o, .slice a A.length ca, .slice b B.length cb] w (Two2 w (sprPoly o (lf A) A.length (lf B) B.length)) :=
  (sprPolyS w o a b A.length ca B.length cb (lf A) (lf B) ha hb).mono fun _ _ h => two_owns (sprPoly_len _ _ _ _ _) h
abbrev C2g (p1 o1 p2 o2 : Nat) (v1 v2 : Value) (u : World) : Prop := u.cell? ⟨p1, o1, none⟩ = some v1 ∧ u.cell? ⟨p2, o2, none⟩ = some v2
theorem C2g.below {p1 o1 p2 o2 : Nat} {v1 v2 : Value} {u u' : World} (h : C2g p1 o1 p2 o2 v1 v2 u) (hb : Below u.heap.size u u') : C2g p1 o1 p2 o2 v1 v2 u' :=
  ⟨(hb.cell (p := ⟨p1, o1, none⟩) (World.block_lt_of_cell? u _ h.1)).trans h.1, (hb.cell (p := ⟨p2, o2, none⟩) (World.block_lt_of_cell? u _ h.2)).trans h.2⟩
set_option maxRecDepth 100000 in
set_option maxHeartbeats 8000000 in
theorem grbOkS (w : World) (o : Int) (a : Option Addr) (n cap : Nat) (ad : Nat → Option Addr) (cp : Nat → Nat) (L : Nat → List T) (h : RdS w a n cap ad (lN L) cp (fN L)) :
    Calls Tryz.prog 20 #[.int .i64 o, .slice a n cap] w (Val w (.bool (grbOk o n L))) := by
  have q1 : (n : Int) ≤ 140737488351232 := by have := h.2.1; omega
  obtain ⟨r, hr⟩ : ∃ r, grbOk o n L = r := ⟨_, rfl⟩
  rw [hr]
  have HR := Hid.mk' hr
  have HH := Hid.mk' h
  clear h hr
  unfold Val
  by_cases ho : 1 ≤ o ∧ o ≤ 3
  · obtain ⟨o1, o2⟩ := ho
    cases hl : lstOk n (lN L) (fN L)
    · have hrf : r = false := by rw [← HR.out]; exact decide_eq_false (fun hh => by rw [hl] at hh; exact absurd hh.2.1 (by simp))
      subst hrf
      go_enter Tryz.func20, Tryz.ntmps20
      go_wp2_with (go_at_call 43; refine (inS_in _ _ _ _ (by omega) (by omega)).mono ?_; rintro r w' ⟨rfl, hw'⟩; obtain rfl := hw'.symm; clear hw')
      refine (lstOkS _ _ _ _ _ _ _ _ HH.out).mono ?_
      rw [hl]
      rintro r w2 ⟨rfl, hb2⟩
      have HB2 := Hid.mk' hb2
      clear hb2
      go_wp2
      go_ret
      exact ⟨rfl, HB2.out⟩
    · have n12 := (lstOk_all hl).1
      have hn12 : (n : Int) ≤ 12 := by omega
      have HL := Hid.mk' hl
      go_enter Tryz.func20, Tryz.ntmps20
      go_wp2_with (go_at_call 43; refine (inS_in _ _ _ _ (by omega) (by omega)).mono ?_; rintro r w' ⟨rfl, hw'⟩; obtain rfl := hw'.symm; clear hw')
      refine (lstOkS _ _ _ _ _ _ _ _ HH.out).mono ?_
      rw [hl]
      rintro r0 w2 ⟨rfl, hb2⟩
      have HB2 := Hid.mk' hb2
      clear hb2 hl
      go_wp2
      go_loopw [5] (fun v wr => ∃ k : Nat, 1 ≤ k ∧ (k ≤ n ∨ k = 1) ∧ v = .int .i64 (k : Int) ∧ Below w.heap.size w wr ∧ ∀ k', k' < k → k' < n → ∀ i, i < k' → prK o n L i k' = 2) (fun v _ => n - (intOf v).toNat)
      case atStart => exact ⟨1, Nat.le_refl _, .inr rfl, rfl, HB2.out, fun k' h1 h2 i hi => by omega⟩
      case round =>
        obtain ⟨k, hk1, hk2, rfl, hB, hJ⟩ := hrel
        have HJ := Hid.mk' hJ
        have HB := Hid.mk' hB
        clear hJ
        by_cases hlt : k < n
        · have hkl : (k : Int) < (n : Int) := by omega
          go_wp2
          go_loopw [6] (fun v wr => ∃ i : Nat, i ≤ k ∧ v = .int .i64 (i : Int) ∧ Below w.heap.size w wr ∧ ∀ i', i' < i → prK o n L i' k = 2) (fun v _ => k - (intOf v).toNat)
          case atStart => exact ⟨0, Nat.zero_le _, rfl, HB.out, fun i hi => by omega⟩
          case round =>
            obtain ⟨i, hi, rfl, hBi, hI⟩ := hrel
            have HI := Hid.mk' hI
            have HBi := Hid.mk' hBi
            clear hI
            by_cases hik : i < k
            · have hil : (i : Int) < (k : Int) := by omega
              have hin : (i : Int) < (n : Int) := by omega
              rcases HH.out.2.2.1 with h0 | ⟨b, off, rfl, hblt, hcl⟩
              · omega
              have dr : Below wr.heap.size wr wr.drew := (Below.refl _ _).drew
              have hBd := bel_next hBi dr
              have hbd : b < wr.heap.size := Nat.lt_of_lt_of_le hblt hBi.size
              obtain ⟨A, hA⟩ : ∃ A, L i = A := ⟨_, rfl⟩
              obtain ⟨Bk, hBk⟩ : ∃ A, L k = A := ⟨_, rfl⟩
              have hS : C2g b (off + i) b (off + k) (.slice (ad i) A.length (cp i)) (.slice (ad k) Bk.length (cp k)) wr.drew := ⟨(hBd.cell (p := ⟨b, off + i, none⟩) hblt).trans (by rw [← hA]; exact hcl i (by omega)), (hBd.cell (p := ⟨b, off + k, none⟩) hblt).trans (by rw [← hBk]; exact hcl k hlt)⟩
              have RA : Hid (RL wr.drew (ad i) (cp i) A) := by rw [← hA]; exact (HH.out.2.2.2 i (by omega)).below hBd
              have RB : Hid (RL wr.drew (ad k) (cp k) Bk) := by rw [← hBk]; exact (HH.out.2.2.2 k hlt).below hBd
              have HS := Hid.mk' hS
              have HBd := Hid.mk' hBd
              obtain ⟨s, sb, hsp⟩ : ∃ s sb, sprPoly o (lf A) A.length (lf Bk) Bk.length = (s, sb) := ⟨_, _, rfl⟩
              have hc := sprS_L2 (w := wr.drew) o RA.out RB.out
              rw [hsp] at hc
              have HC := Hid.mk' hc
              have hsp' : sprPoly o (lf (L i)) (L i).length (lf (L k)) (L k).length = (s, sb) := by rw [hA, hBk]; exact hsp
              have HSP := Hid.mk' hsp'
              clear hcl hS hc hsp hsp' hA hBk hBi hBd dr
              cases sb
              · have hrf : r = false := by rw [← HR.out]; exact grbOk_bad hlt hik (by rw [prK_no HSP.out]; omega)
                subst hrf
                go_wp2_with fail
                have hS := HS.out
                go_region_held3 (fun u => u.cell? ⟨b, off + i, none⟩ = some (.slice (ad i) A.length (cp i)) ∧ u.cell? ⟨b, off + k, none⟩ = some (.slice (ad k) Bk.length (cp k))) (first | with_reducible exact hS | with_reducible exact C2g.below hS b5) (first | (go_at_call 56; refine HC.out.mono ?_; rintro e w5 ⟨za, zc, rfl, b5, hz⟩))
                have HB5 := Hid.mk' (bel_next HBd.out b5)
                clear hS b5 hz
                go_wp2
                go_ret
                exact ⟨rfl, HB5.out⟩
              · have hso := spr_ok HSP.out
                have HSO := Hid.mk' hso
                clear hso
                go_wp2_with fail
                have hS := HS.out
                go_region_held3 (fun u => u.cell? ⟨b, off + i, none⟩ = some (.slice (ad i) A.length (cp i)) ∧ u.cell? ⟨b, off + k, none⟩ = some (.slice (ad k) Bk.length (cp k))) (first | with_reducible exact hS | with_reducible exact C2g.below hS b5) (first | (go_at_call 56; refine HC.out.mono ?_; rintro e w5 ⟨za, zc, rfl, b5, hz⟩))
                have HB5 := Hid.mk' (bel_next HBd.out b5)
                have HZ5 := Hid.mk' hz
                have HH5 := Hid.mk' (HH.out.below HB5.out)
                clear hS b5 hz HC RA RB
                go_wp2_with fail
                refine (l7AllS w5 o za zc s _ n cap ad (lN L) cp (fN L) HZ5.out HH5.out o1 o2 HSO.out HL.out).mono ?_
                rw [← redAll_is ⟨o1, o2⟩ HSO.out HL.out]
                obtain ⟨R, hR⟩ : ∃ R, redAll o s n (lN L) (fN L) = R := ⟨_, rfl⟩
                rw [hR]
                have HRR := Hid.mk' hR
                clear hR
                rintro e w6 ⟨b6, hh⟩
                have HB6 := Hid.mk' (bel_next HB5.out b6)
                clear b6
                rcases hh with ⟨S, qa, qc, ad', cp', ra, rc, rfl, rfl, r1, r2⟩ | ⟨rfl, qa, qc, ra, rc, rfl⟩
                · clear r1 r2
                  have hpk := prK_some HSP.out HRR.out
                  by_cases hz : S.r.length = 0
                  · rw [if_pos hz] at hpk
                    have HPK := Hid.mk' hpk
                    have hz0 : ¬ (0 : Int) < (S.r.length : Int) := by omega
                    clear hpk hz
                    go_wp2
                    go_roundw
                    case rel => exact ⟨i + 1, by omega, by go_num, HB6.out, fun i' hi' => by
                      by_cases e : i' = i
                      · rw [e]; exact HPK.out
                      · exact HI.out i' (by omega)⟩
                    case measure => simp [intOf]; omega
                  · rw [if_neg hz] at hpk
                    have hrf : r = false := by rw [← HR.out]; exact grbOk_bad hlt hik (by rw [hpk]; omega)
                    subst hrf
                    have hz0 : (0 : Int) < (S.r.length : Int) := by omega
                    clear hpk hz
                    go_wp2
                    go_ret
                    exact ⟨rfl, HB6.out⟩
                · have hrf : r = false := by rw [← HR.out]; exact grbOk_bad hlt hik (by rw [prK_none HSP.out HRR.out]; omega)
                  subst hrf
                  go_wp2
                  go_ret
                  exact ⟨rfl, HB6.out⟩
            · have hie : i = k := by omega
              subst hie
              have hnl : ¬ (i : Int) < (i : Int) := by omega
              go_wp2
              go_roundw
              case rel => exact ⟨i + 1, by omega, by omega, by go_num, HBi.out, fun k' h1 h2 i' hi' => by
                by_cases e : k' = i
                · subst e; exact HI.out i' hi'
                · exact HJ.out k' (by omega) h2 i' hi'⟩
              case measure => simp [intOf]; omega
        · have hnl : ¬ (k : Int) < (n : Int) := by omega
          have hrt : r = true := by rw [← HR.out]; exact decide_eq_true ⟨⟨o1, o2⟩, HL.out, fun k' hk' i hi => HJ.out k' (by omega) hk' i hi⟩
          subst hrt
          go_wp2
          go_ret
          exact ⟨rfl, HB.out⟩
  · have ho' : o < 1 ∨ (1 ≤ o ∧ 3 < o) := by omega
    have hrf : r = false := by rw [← HR.out]; exact decide_eq_false (fun hh => ho hh.1)
    subst hrf
    clear ho
    go_enter Tryz.func20, Tryz.ntmps20
    go_wp2_with (go_at_call 43; refine (inS_out _ _ _ _ ho').mono ?_; rintro r w' ⟨rfl, hw'⟩; obtain rfl := hw'.symm; clear hw')
    go_ret
    exact ⟨rfl, Below.refl _ _⟩
end Go.Proofs.YtmlaedpamobmhaaGreat
namespace Go.Proofs.YtmlaedpamobmhaaGreat
open Go.RowKit Go.Deep Go.Joins
set_option linter.unusedVariables false

/-! which memory has turned -/
structure Fr (P : Nat → Prop) (w w' : World) : Prop where
  os : w'.os = w.os
  tape : w'.tape = w.tape
  output : w'.output = w.output
  size : w.heap.size ≤ w'.heap.size
  block : ∀ k, k < w.heap.size → ¬ P k → w'.heap[k]? = w.heap[k]?
theorem Fr.refl (P : Nat → Prop) (w : World) : Fr P w w := ⟨rfl, rfl, rfl, Nat.le_refl _, fun _ _ _ => rfl⟩
theorem Fr.trans {P : Nat → Prop} {a b c : World} (h : Fr P a b) (k : Fr P b c) : Fr P a c :=
  ⟨k.os.trans h.os, k.tape.trans h.tape, k.output.trans h.output, Nat.le_trans h.size k.size, fun i hi hn => (k.block i (Nat.lt_of_lt_of_le hi h.size) hn).trans (h.block i hi hn)⟩
theorem Fr.mono {P P' : Nat → Prop} {w w' : World} (h : Fr P w w') (hp : ∀ k, k < w.heap.size → P k → P' k) : Fr P' w w' := ⟨h.os, h.tape, h.output, h.size, fun k hk hn => h.block k hk (fun e => hn (hp k hk e))⟩
theorem Fr.of_below {P : Nat → Prop} {w w' : World} (h : Below w.heap.size w w') : Fr P w w' := ⟨h.os, h.tape, h.output, h.size, fun k hk _ => h.block k hk⟩
theorem Fr.next {P : Nat → Prop} {a b c : World} (h : Fr P a b) (k : Below b.heap.size b c) : Fr P a c := h.trans (Fr.of_below k)
theorem Fr.set {P : Nat → Prop} {w w' : World} (h : Fr P w w') {b o : Nat} {v : Value} (hb : b < w.heap.size → P b) : Fr P w (w'.setCell ⟨b, o, none⟩ v) :=
  ⟨h.os, h.tape, h.output, by simpa [World.setCell] using h.size, fun k hk hn => (Below.heap_setCell _ _ _ _ (by show k ≠ b; intro e; subst e; exact hn (hb hk))).trans (h.block k hk hn)⟩
theorem Fr.grown {P : Nat → Prop} {w w' w'' : World} {row : Option Nat} (h : Fr P w w') (hg : w'.grownBy w'' row) (hr : ∀ g, row = some g → g < w.heap.size → P g) : Fr P w w'' :=
  ⟨hg.os.trans h.os, hg.tape.trans h.tape, hg.output.trans h.output, Nat.le_trans h.size hg.size, fun k hk hn => (hg.block k (Nat.lt_of_lt_of_le hk h.size) (fun e => hn (hr k e.symm hk))).trans (h.block k hk hn)⟩
theorem Fr.cell {P : Nat → Prop} {w w' : World} (h : Fr P w w') {b o : Nat} (hb : b < w.heap.size) (hp : ¬ P b) : w'.cell? ⟨b, o, none⟩ = w.cell? ⟨b, o, none⟩ :=
  World.cell?_of_block (w := w) (a := ⟨b, o, none⟩) (h.block b hb hp)
theorem Fr.frozen {P : Nat → Prop} {w w' : World} (h : Fr P w w') {b o : Nat} (hb : b < w.heap.size) (hp : ¬ P b) : w'.frozen? ⟨b, o, none⟩ = w.frozen? ⟨b, o, none⟩ :=
  World.frozen?_of_block (w := w) (a := ⟨b, o, none⟩) (h.block b hb hp)
theorem Fr.rd {P : Nat → Prop} {w w' : World} (h : Fr P w w') {a : Option Addr} {n cap : Nat} {f : Nat → T} (hr : Rd w a n cap f) (hp : n = 0 ∨ ∀ b off, a = some ⟨b, off, none⟩ → ¬ P b) : Rd w' a n cap f := by
  obtain ⟨h1, h2, h3⟩ := hr
  refine ⟨h1, h2, ?_⟩
  rcases h3 with h0 | ⟨b, off, he, hlt, hc⟩
  · exact .inl h0
  · rcases hp with h0 | hp
    · exact .inl h0
    · refine .inr ⟨b, off, he, Nat.lt_of_lt_of_le hlt h.size, fun i hi => ?_⟩
      have hn := hp b off he
      obtain ⟨c0, c1, c2, c3, c4⟩ := hc i hi
      exact ⟨(h.cell hlt hn).trans c0, (h.cell hlt hn).trans c1, (h.cell hlt hn).trans c2, (h.cell hlt hn).trans c3, (h.cell hlt hn).trans c4⟩
theorem Fr.c5 {P : Nat → Prop} {w w' : World} (h : Fr P w w') {b : Nat} {t : T} (hc : C5 w b t) (hp : ¬ P b) : C5 w' b t := by
  have hlt := hc.lt
  obtain ⟨c0, c1, c2, c3, c4⟩ := hc
  exact ⟨(h.cell hlt hp).trans c0, (h.cell hlt hp).trans c1, (h.cell hlt hp).trans c2, (h.cell hlt hp).trans c3, (h.cell hlt hp).trans c4⟩
theorem Fr.below {P : Nat → Prop} {lo : Nat} {u w w' : World} (hb : Below lo u w) (h : Fr P w w') (hp : ∀ k, P k → lo ≤ k) (hlo : lo ≤ u.heap.size) : Below lo u w' :=
  ⟨h.os.trans hb.os, h.tape.trans hb.tape, h.output.trans hb.output, Nat.le_trans hb.size h.size, fun k hk => (h.block k (Nat.lt_of_lt_of_le hk (Nat.le_trans hlo hb.size)) (fun e => by have := hp k e; omega)).trans (hb.block k hk)⟩
theorem Fr.owns {P : Nat → Prop} {w w' : World} (h : Fr P w w') {lo : Nat} {e : TypeId} {size : Nat} {v : Value} {n : Nat} {xs : List Value} (ho : w.ownsRow lo e size v n xs) (hp : ∀ g, v.ownBlock = some g → ¬ P g) : w'.ownsRow lo e size v n xs := by
  refine ⟨ho.1, ho.2.imp id ?_⟩
  rintro ⟨g, cap, cur, hv, hlo, hgg, hn, hm, hs, ht⟩
  refine ⟨g, cap, cur, hv, hlo, ?_, hn, hm, hs, ht⟩
  have hlt : g < w.heap.size := (Array.getElem?_eq_some_iff.1 hgg).1
  exact (h.block g hlt (hp g (by rw [hv]; rfl))).trans hgg
theorem sc_same {w : World} {a : Addr} {v u : Value} (h : w.cell? a = some u) : (w.setCell a v).cell? a = some v := World.cell?_setCell_same (w := w) (a := a) (v := v) h
theorem sc_other {w : World} {a b : Addr} {v : Value} (h : a ≠ b) : (w.setCell a v).cell? b = w.cell? b := World.cell?_setCell_other (w := w) (a := a) (b := b) (v := v) h
/-! pairs, as they come -/
def nxP (q : Nat × Nat) : Nat × Nat := if q.1 + 1 < q.2 then (q.1 + 1, q.2) else (0, q.2 + 1)
def pq : Nat → Nat × Nat
  | 0 => (0, 1)
  | j + 1 => nxP (pq j)
def tri : Nat → Nat
  | 0 => 0
  | k + 1 => tri k + k
theorem pq_tri : ∀ k i, i < k → pq (tri k + i) = (i, k)
  | 0, i, h => by omega
  | 1, i, h => by
    obtain rfl : i = 0 := by omega
    rfl
  | k + 2, 0, _ => by
    have := pq_tri (k + 1) k (by omega)
    show pq (tri (k + 1) + (k + 1)) = (0, k + 2)
    rw [show tri (k + 1) + (k + 1) = (tri (k + 1) + k) + 1 by omega]
    show nxP (pq (tri (k + 1) + k)) = _
    rw [this]
    unfold nxP
    rw [if_neg (by simp)]
  | k + 2, i + 1, h => by
    have := pq_tri (k + 2) i (by omega)
    rw [show tri (k + 2) + (i + 1) = (tri (k + 2) + i) + 1 by omega]
    show nxP (pq (tri (k + 2) + i)) = _
    rw [this]
    unfold nxP
    rw [if_pos (by simpa using h)]
theorem tri_mono {a b : Nat} (h : a ≤ b) : tri a ≤ tri b := by
  induction b with
  | zero => obtain rfl : a = 0 := by omega
            exact Nat.le_refl _
  | succ b ih =>
    rcases Nat.lt_or_ge a (b + 1) with h' | h'
    · have := ih (by omega); show tri a ≤ tri b + b; omega
    · obtain rfl : a = b + 1 := by omega
      exact Nat.le_refl _
theorem tri_at : ∀ (m j : Nat), j < tri m → ∃ k i, k < m ∧ i < k ∧ j = tri k + i
  | 0, j, h => absurd h (Nat.not_lt_zero _)
  | m + 1, j, h => by
    rcases Nat.lt_or_ge j (tri m) with h' | h'
    · obtain ⟨k, i, h1, h2, h3⟩ := tri_at m j h'
      exact ⟨k, i, by omega, h2, h3⟩
    · have h : j < tri m + m := h
      exact ⟨m, j - tri m, by omega, by omega, by omega⟩
theorem pq_lt {m j : Nat} (h : j < tri m) : (pq j).1 < (pq j).2 ∧ (pq j).2 < m := by
  obtain ⟨k, i, h1, h2, rfl⟩ := tri_at m j h
  rw [pq_tri k i h2]
  exact ⟨h2, h1⟩
structure Pr where
  t1 : T
  t2 : T
  i : Nat
  k : Nat
def prQ (kf : Nat → T) (j : Nat) : Pr := ⟨sprT (kf (pq j).1) (M.both (kf (pq j).1).m (kf (pq j).2).m), sprT (kf (pq j).2) (M.both (kf (pq j).1).m (kf (pq j).2).m), (pq j).1, (pq j).2⟩
theorem prQ_congr {kf kf' : Nat → T} {m j : Nat} (h : ∀ i, i < m → kf i = kf' i) (hj : j < tri m) : prQ kf j = prQ kf' j := by
  obtain ⟨h1, h2⟩ := pq_lt hj
  unfold prQ
  rw [h _ (Nat.lt_trans h1 h2), h _ h2]
abbrev vi (z : Int) : Value := .int .i64 z
abbrev prCells (p : Pr) (nx : Option Addr) : Array Value := #[vi p.t1.c, vi p.t1.m.x, vi p.t1.m.y, vi p.t1.m.d, vi p.t1.m.e, vi p.t2.c, vi p.t2.m.x, vi p.t2.m.y, vi p.t2.m.d, vi p.t2.m.e, vi (p.i : Int), vi (p.k : Int), .pointer nx]
structure PrAt (w : World) (b : Nat) (p : Pr) (nx : Option Addr) : Prop where
  a0 : w.cell? ⟨b, 0, none⟩ = some (.int .i64 p.t1.c)
  a1 : w.cell? ⟨b, 1, none⟩ = some (.int .i64 p.t1.m.x)
  a2 : w.cell? ⟨b, 2, none⟩ = some (.int .i64 p.t1.m.y)
  a3 : w.cell? ⟨b, 3, none⟩ = some (.int .i64 p.t1.m.d)
  a4 : w.cell? ⟨b, 4, none⟩ = some (.int .i64 p.t1.m.e)
  b0 : w.cell? ⟨b, 5, none⟩ = some (.int .i64 p.t2.c)
  b1 : w.cell? ⟨b, 6, none⟩ = some (.int .i64 p.t2.m.x)
  b2 : w.cell? ⟨b, 7, none⟩ = some (.int .i64 p.t2.m.y)
  b3 : w.cell? ⟨b, 8, none⟩ = some (.int .i64 p.t2.m.d)
  b4 : w.cell? ⟨b, 9, none⟩ = some (.int .i64 p.t2.m.e)
  ci : w.cell? ⟨b, 10, none⟩ = some (.int .i64 (p.i : Int))
  ck : w.cell? ⟨b, 11, none⟩ = some (.int .i64 (p.k : Int))
  nx : w.cell? ⟨b, 12, none⟩ = some (.pointer nx)
  fz : w.frozen? ⟨b, 12, none⟩ = false
theorem PrAt.lt {w : World} {b : Nat} {p : Pr} {nx : Option Addr} (h : PrAt w b p nx) : b < w.heap.size := World.block_lt_of_cell? w _ h.a0
theorem PrAt.fr {P : Nat → Prop} {w w' : World} {b : Nat} {p : Pr} {nx : Option Addr} (h : PrAt w b p nx) (hf : Fr P w w') (hp : ¬ P b) : PrAt w' b p nx :=
  have hl := h.lt
  ⟨(hf.cell hl hp).trans h.a0, (hf.cell hl hp).trans h.a1, (hf.cell hl hp).trans h.a2, (hf.cell hl hp).trans h.a3, (hf.cell hl hp).trans h.a4, (hf.cell hl hp).trans h.b0, (hf.cell hl hp).trans h.b1, (hf.cell hl hp).trans h.b2, (hf.cell hl hp).trans h.b3, (hf.cell hl hp).trans h.b4, (hf.cell hl hp).trans h.ci, (hf.cell hl hp).trans h.ck, (hf.cell hl hp).trans h.nx, (hf.frozen hl hp).trans h.fz⟩
theorem PrAt.below {w w' : World} {b : Nat} {p : Pr} {nx : Option Addr} (h : PrAt w b p nx) (hb : Below w.heap.size w w') : PrAt w' b p nx := h.fr (P := fun _ => False) (Fr.of_below hb) id
theorem PrAt.box (w : World) (y : TypeId) (p : Pr) (nx : Option Addr) : PrAt (w.alloc (.cells (prCells p nx) y)) w.heap.size p nx := by
  constructor <;> first | (rw [World.cell?_alloc_at _ _ _ _ rfl]; rfl) | (simp [go_sem])
theorem ne12 {b j : Nat} (h : j ≠ 12) : (⟨b, 12, none⟩ : Addr) ≠ ⟨b, j, none⟩ := fun e => h (by injection e with _ e2; exact e2.symm)
/-- another one stands behind it. -/
theorem PrAt.link {w : World} {b : Nat} {p : Pr} {nx : Option Addr} (h : PrAt w b p nx) (nx' : Option Addr) : PrAt (w.setCell ⟨b, 12, none⟩ (.pointer nx')) b p nx' where
  a0 := (sc_other (ne12 (by omega))).trans h.a0
  a1 := (sc_other (ne12 (by omega))).trans h.a1
  a2 := (sc_other (ne12 (by omega))).trans h.a2
  a3 := (sc_other (ne12 (by omega))).trans h.a3
  a4 := (sc_other (ne12 (by omega))).trans h.a4
  b0 := (sc_other (ne12 (by omega))).trans h.b0
  b1 := (sc_other (ne12 (by omega))).trans h.b1
  b2 := (sc_other (ne12 (by omega))).trans h.b2
  b3 := (sc_other (ne12 (by omega))).trans h.b3
  b4 := (sc_other (ne12 (by omega))).trans h.b4
  ci := (sc_other (ne12 (by omega))).trans h.ci
  ck := (sc_other (ne12 (by omega))).trans h.ck
  nx := sc_same h.nx
  fz := by rw [World.frozen?_setCell]; exact h.fz
def qF (B : Nat → Nat) (a e : Nat) : Option Addr := if a < e then some ⟨B a, 0, none⟩ else none
/-- the queue at ⟨Q, z⟩: the greatest terms that came, the pairs a .. e - 1. -/
structure Que (w : World) (lo Q z : Nat) (lv : Value) (m : Nat) (kf : Nat → T) (B : Nat → Nat) (a e : Nat) : Prop where
  cl : w.cell? ⟨Q, z, none⟩ = some lv
  cf : w.cell? ⟨Q, z + 1, none⟩ = some (.pointer (qF B a e))
  ct : ∃ v, w.cell? ⟨Q, z + 2, none⟩ = some v ∧ (a < e → v = .pointer (some ⟨B (e - 1), 0, none⟩))
  fz : w.frozen? ⟨Q, z, none⟩ = false ∧ w.frozen? ⟨Q, z + 1, none⟩ = false ∧ w.frozen? ⟨Q, z + 2, none⟩ = false
  own : w.ownsRow lo 54 5 lv ((List.range m).map kf).length (cellsL ((List.range m).map kf))
  ap : ∀ g, lv.ownBlock = some g → g ≠ Q
  pr : ∀ j, a ≤ j → j < e → PrAt w (B j) (prQ kf j) (if j + 1 < e then some ⟨B (j + 1), 0, none⟩ else none)
  bk : ∀ j, a ≤ j → j < e → lo ≤ B j ∧ B j ≠ Q ∧ lv.ownBlock ≠ some (B j)
  inj : ∀ i j, a ≤ i → i < j → j < e → B i ≠ B j
  hQ : lo ≤ Q
/-- the memory that may turn where one more comes. -/
def QS (Q : Nat) (lv : Value) (B : Nat → Nat) (a e k : Nat) : Prop := k = Q ∨ lv.ownBlock = some k ∨ (a < e ∧ k = B (e - 1))
theorem Que.lt {w : World} {lo Q z : Nat} {lv : Value} {m : Nat} {kf : Nat → T} {B : Nat → Nat} {a e : Nat} (h : Que w lo Q z lv m kf B a e) : Q < w.heap.size := World.block_lt_of_cell? w _ h.cl
theorem Que.fr {P : Nat → Prop} {w w' : World} {lo Q z : Nat} {lv : Value} {m : Nat} {kf : Nat → T} {B : Nat → Nat} {a e : Nat} (h : Que w lo Q z lv m kf B a e) (hf : Fr P w w') (h1 : ¬ P Q) (h2 : ∀ g, lv.ownBlock = some g → ¬ P g) (h3 : ∀ j, a ≤ j → j < e → ¬ P (B j)) : Que w' lo Q z lv m kf B a e where
  cl := (hf.cell h.lt h1).trans h.cl
  cf := (hf.cell h.lt h1).trans h.cf
  ct := h.ct.imp fun v ⟨c1, c2⟩ => ⟨(hf.cell h.lt h1).trans c1, c2⟩
  fz := ⟨(hf.frozen h.lt h1).trans h.fz.1, (hf.frozen h.lt h1).trans h.fz.2.1, (hf.frozen h.lt h1).trans h.fz.2.2⟩
  own := hf.owns h.own h2
  ap := h.ap
  pr := fun j i1 i2 => (h.pr j i1 i2).fr hf (h3 j i1 i2)
  bk := h.bk
  inj := h.inj
  hQ := h.hQ
theorem Que.below {w w' : World} {lo Q z : Nat} {lv : Value} {m : Nat} {kf : Nat → T} {B : Nat → Nat} {a e : Nat} (h : Que w lo Q z lv m kf B a e) (hb : Below w.heap.size w w') : Que w' lo Q z lv m kf B a e := h.fr (P := fun _ => False) (Fr.of_below hb) id (fun _ _ => id) (fun _ _ _ => id)
theorem neQ {Q z z' : Nat} (h : z ≠ z') : (⟨Q, z, none⟩ : Addr) ≠ ⟨Q, z', none⟩ := fun e => h (by injection e)
def updB (B : Nat → Nat) (e b j : Nat) : Nat := if j = e then b else B j
theorem qF_same {B B' : Nat → Nat} {a e e' : Nat} (h : a < e) (h' : a < e') (hB : B a = B' a) : qF B a e = qF B' a e' := by unfold qF; rw [if_pos h, if_pos h', hB]
/-- a pair behind all others. -/
theorem Que.push {w : World} {lo Q z : Nat} {lv : Value} {m : Nat} {kf : Nat → T} {B : Nat → Nat} {a e : Nat} (h : Que w lo Q z lv m kf B a e) (hae : a ≤ e) {b : Nat} (hb : PrAt w b (prQ kf e) none) (hlo : lo ≤ b) (hbQ : b ≠ Q) (hbl : lv.ownBlock ≠ some b) (hbB : ∀ j, a ≤ j → j < e → B j ≠ b) :
    Que (if a < e then (w.setCell ⟨B (e - 1), 12, none⟩ (.pointer (some ⟨b, 0, none⟩))).setCell ⟨Q, z + 2, none⟩ (.pointer (some ⟨b, 0, none⟩)) else (w.setCell ⟨Q, z + 1, none⟩ (.pointer (some ⟨b, 0, none⟩))).setCell ⟨Q, z + 2, none⟩ (.pointer (some ⟨b, 0, none⟩))) lo Q z lv m kf (updB B e b) a (e + 1) := by
  have hub : ∀ j, j < e → updB B e b j = B j := fun j hj => if_neg (by omega)
  have hue : updB B e b e = b := if_pos rfl
  obtain ⟨tv, ht, _⟩ := h.ct
  by_cases hlt : a < e
  · rw [if_pos hlt]
    have hl := h.bk (e - 1) (by omega) (by omega)
    have f1 : Fr (fun k => k = B (e - 1)) w (w.setCell ⟨B (e - 1), 12, none⟩ (.pointer (some ⟨b, 0, none⟩))) := (Fr.refl _ w).set (fun _ => rfl)
    have c1 : (w.setCell ⟨B (e - 1), 12, none⟩ (.pointer (some ⟨b, 0, none⟩))).cell? ⟨Q, z + 2, none⟩ = some tv := (f1.cell h.lt (fun q => hl.2.1 q.symm)).trans ht
    generalize hw1 : w.setCell ⟨B (e - 1), 12, none⟩ (.pointer (some ⟨b, 0, none⟩)) = w1 at f1 c1
    have hlnk : PrAt w1 (B (e - 1)) (prQ kf (e - 1)) (some ⟨b, 0, none⟩) := by rw [← hw1]; exact (h.pr (e - 1) (by omega) (by omega)).link _
    have f2 : Fr (fun k => k = Q) w1 (w1.setCell ⟨Q, z + 2, none⟩ (.pointer (some ⟨b, 0, none⟩))) := (Fr.refl _ w1).set (fun _ => rfl)
    have hlt1 : Q < w1.heap.size := Nat.lt_of_lt_of_le h.lt f1.size
    refine ⟨?_, ?_, ⟨_, sc_same c1, fun _ => by rw [show e + 1 - 1 = e by omega, hue]⟩, ?_, ?_, h.ap, ?_, ?_, ?_, h.hQ⟩
    · rw [sc_other (neQ (by omega))]; exact (f1.cell h.lt (fun q => hl.2.1 q.symm)).trans h.cl
    · rw [sc_other (neQ (by omega)), (f1.cell h.lt (fun q => hl.2.1 q.symm)).trans h.cf, qF_same (B' := updB B e b) (e' := e + 1) hlt (by omega) (hub a hlt).symm]
    · simp only [World.frozen?_setCell]
      exact ⟨(f1.frozen h.lt (fun q => hl.2.1 q.symm)).trans h.fz.1, (f1.frozen h.lt (fun q => hl.2.1 q.symm)).trans h.fz.2.1, (f1.frozen h.lt (fun q => hl.2.1 q.symm)).trans h.fz.2.2⟩
    · exact f2.owns (f1.owns h.own (fun g hg q => hl.2.2 (by rw [hg, q]))) (fun g hg q => h.ap g hg q)
    · intro j j1 j2
      by_cases e1 : j = e
      · subst e1
        rw [hue, if_neg (by omega)]
        exact (hb.fr f1 (fun q => hbB (j - 1) (by omega) (by omega) q.symm)).fr f2 hbQ
      · rw [hub j (by omega), if_pos (by omega)]
        by_cases e2 : j = e - 1
        · have e3 : j + 1 = e := by omega
          rw [e3, hue, e2]
          exact hlnk.fr f2 hl.2.1
        · rw [hub (j + 1) (by omega)]
          have := h.pr j j1 (by omega)
          rw [if_pos (by omega)] at this
          exact (this.fr f1 (h.inj j (e - 1) j1 (by omega) (by omega))).fr f2 (h.bk j j1 (by omega)).2.1
    · intro j j1 j2
      by_cases e1 : j = e
      · subst e1; rw [hue]; exact ⟨hlo, hbQ, hbl⟩
      · rw [hub j (by omega)]; exact h.bk j j1 (by omega)
    · intro i j i1 i2 i3
      rw [hub i (by omega)]
      by_cases e1 : j = e
      · subst e1; rw [hue]; exact hbB i i1 (by omega)
      · rw [hub j (by omega)]; exact h.inj i j i1 i2 (by omega)
  · rw [if_neg hlt]
    have hea : a = e := by omega
    subst hea
    have f1 : Fr (fun k => k = Q) w (w.setCell ⟨Q, z + 1, none⟩ (.pointer (some ⟨b, 0, none⟩))) := (Fr.refl _ w).set (fun _ => rfl)
    have f2 : Fr (fun k => k = Q) w ((w.setCell ⟨Q, z + 1, none⟩ (.pointer (some ⟨b, 0, none⟩))).setCell ⟨Q, z + 2, none⟩ (.pointer (some ⟨b, 0, none⟩))) := f1.set (fun _ => rfl)
    have c1 : (w.setCell ⟨Q, z + 1, none⟩ (.pointer (some ⟨b, 0, none⟩))).cell? ⟨Q, z + 2, none⟩ = some tv := (sc_other (neQ (by omega))).trans ht
    refine ⟨?_, ?_, ⟨_, sc_same c1, fun _ => by rw [show a + 1 - 1 = a by omega, hue]⟩, ?_, ?_, h.ap, ?_, ?_, ?_, h.hQ⟩
    · rw [sc_other (neQ (by omega)), sc_other (neQ (by omega))]; exact h.cl
    · rw [sc_other (neQ (by omega)), sc_same h.cf]
      unfold qF
      rw [if_pos (by omega), hue]
    · simp only [World.frozen?_setCell]; exact h.fz
    · exact f2.owns h.own (fun g hg q => h.ap g hg q)
    · intro j j1 j2
      obtain rfl : j = a := by omega
      rw [hue, if_neg (by omega)]
      exact hb.fr f2 hbQ
    · intro j j1 j2
      obtain rfl : j = a := by omega
      rw [hue]; exact ⟨hlo, hbQ, hbl⟩
    · intro i j i1 i2 i3; omega
/-- the first pair is taken away. -/
theorem Que.pop {w : World} {lo Q z : Nat} {lv : Value} {m : Nat} {kf : Nat → T} {B : Nat → Nat} {a e : Nat} (h : Que w lo Q z lv m kf B a e) (hlt : a < e) : Que (w.setCell ⟨Q, z + 1, none⟩ (.pointer (qF B (a + 1) e))) lo Q z lv m kf B (a + 1) e ∧ PrAt (w.setCell ⟨Q, z + 1, none⟩ (.pointer (qF B (a + 1) e))) (B a) (prQ kf a) (qF B (a + 1) e) := by
  have f1 : Fr (fun k => k = Q) w (w.setCell ⟨Q, z + 1, none⟩ (.pointer (qF B (a + 1) e))) := (Fr.refl _ w).set (fun _ => rfl)
  obtain ⟨tv, ht, ht2⟩ := h.ct
  refine ⟨⟨?_, sc_same h.cf, ⟨tv, (sc_other (neQ (by omega))).trans ht, fun q => ht2 hlt⟩, by simp only [World.frozen?_setCell]; exact h.fz, f1.owns h.own (fun g hg q => h.ap g hg q), h.ap, fun j j1 j2 => (h.pr j (by omega) j2).fr f1 (h.bk j (by omega) j2).2.1, fun j j1 j2 => h.bk j (by omega) j2, fun i j i1 i2 i3 => h.inj i j (by omega) i2 i3, h.hQ⟩, ?_⟩
  · rw [sc_other (neQ (by omega))]; exact h.cl
  · exact (h.pr a (Nat.le_refl _) hlt).fr f1 (h.bk a (Nat.le_refl _) hlt).2.1
set_option maxRecDepth 100000 in
set_option maxHeartbeats 4000000 in
theorem pushI (w : World) (lo Q z : Nat) (lv : Value) (m : Nat) (kf : Nat → T) (B : Nat → Nat) (a e : Nat) (h : Que w lo Q z lv m kf B a e) (hae : a ≤ e) (b : Nat) (hb : PrAt w b (prQ kf e) none) (hlo : lo ≤ b) (hbQ : b ≠ Q) (hbl : lv.ownBlock ≠ some b) (hbB : ∀ j, a ≤ j → j < e → B j ≠ b) :
    Calls Tryz.prog 92 #[.pointer (some ⟨Q, z, none⟩), .pointer (some ⟨b, 0, none⟩)] w fun r w' => r = .returned (.tuple #[]) ∧ Que w' lo Q z lv m kf (updB B e b) a (e + 1) ∧ Fr (fun k => k = Q ∨ (a < e ∧ k = B (e - 1))) w w' := by
  have HP := Hid.mk' (h.push hae hb hlo hbQ hbl hbB)
  obtain ⟨tv, ht, ht2⟩ := h.ct
  have c0 := h.cf
  have z1 := h.fz.2.1
  have z2 := h.fz.2.2
  by_cases hlt : a < e
  · obtain rfl := ht2 hlt
    have e0 : qF B a e = some ⟨B a, 0, none⟩ := if_pos hlt
    rw [e0] at c0
    have hp := h.pr (e - 1) (by omega) (by omega)
    have k1 := hp.nx
    have k2 := hp.fz
    have hne : B (e - 1) ≠ Q := (h.bk (e - 1) (by omega) (by omega)).2.1
    have HQ := HP.out
    rw [if_pos hlt] at HQ
    have HF : Hid (Fr (fun k => k = Q ∨ (a < e ∧ k = B (e - 1))) w ((w.setCell ⟨B (e - 1), 12, none⟩ (.pointer (some ⟨b, 0, none⟩))).setCell ⟨Q, z + 2, none⟩ (.pointer (some ⟨b, 0, none⟩)))) := ((Fr.refl _ w).set (fun _ => .inr ⟨hlt, rfl⟩)).set (fun _ => .inl rfl)
    have HQ2 := Hid.mk' HQ
    obtain ⟨L, hL⟩ : ∃ L, B (e - 1) = L := ⟨_, rfl⟩
    rw [hL] at ht k1 k2 hne
    have HL := Hid.mk' hL
    clear h hp HQ ht2 e0 HP hb hL hbB
    go_enter Tryz.func92, Tryz.ntmps92
    go_wp2
    go_end0
    refine ⟨rfl, ?_⟩
    have h1 := HQ2.out
    have h2 := HF.out
    rw [HL.out] at h1
    rw [← HL.out] at h1 ⊢
    exact ⟨h1, h2⟩
  · have e0 : qF B a e = none := if_neg hlt
    rw [e0] at c0
    have HQ := HP.out
    rw [if_neg hlt] at HQ
    have HF : Hid (Fr (fun k => k = Q ∨ (a < e ∧ k = B (e - 1))) w ((w.setCell ⟨Q, z + 1, none⟩ (.pointer (some ⟨b, 0, none⟩))).setCell ⟨Q, z + 2, none⟩ (.pointer (some ⟨b, 0, none⟩)))) := ((Fr.refl _ w).set (fun _ => .inl rfl)).set (fun _ => .inl rfl)
    have HQ2 := Hid.mk' HQ
    clear h HQ ht2 e0 HP hb hbB
    go_enter Tryz.func92, Tryz.ntmps92
    go_wp2
    go_end0
    exact ⟨rfl, HQ2.out, HF.out⟩
set_option maxRecDepth 100000 in
set_option maxHeartbeats 4000000 in
theorem popI (w : World) (lo Q z : Nat) (lv : Value) (m : Nat) (kf : Nat → T) (B : Nat → Nat) (a e : Nat) (h : Que w lo Q z lv m kf B a e) (hlt : a < e) :
    Calls Tryz.prog 54 #[.pointer (some ⟨Q, z, none⟩)] w fun r w' => r = .returned (.pointer (some ⟨B a, 0, none⟩)) ∧ Que w' lo Q z lv m kf B (a + 1) e ∧ PrAt w' (B a) (prQ kf a) (qF B (a + 1) e) ∧ Fr (fun k => k = Q) w w' := by
  have HP := Hid.mk' (h.pop hlt)
  have c0 := h.cf
  have z1 := h.fz.2.1
  have e0 : qF B a e = some ⟨B a, 0, none⟩ := if_pos hlt
  rw [e0] at c0
  have hp := h.pr a (Nat.le_refl _) hlt
  have k1 := hp.nx
  have k2 : (if a + 1 < e then some (⟨B (a + 1), 0, none⟩ : Addr) else none) = qF B (a + 1) e := rfl
  rw [k2] at k1
  have hne : B a ≠ Q := (h.bk a (Nat.le_refl _) hlt).2.1
  have HF : Hid (Fr (fun k => k = Q) w (w.setCell ⟨Q, z + 1, none⟩ (.pointer (qF B (a + 1) e)))) := (Fr.refl _ w).set (fun _ => rfl)
  clear h hp e0 k2
  go_enter Tryz.func54, Tryz.ntmps54
  go_wp2
  go_ret
  exact ⟨rfl, HP.out.1, HP.out.2, HF.out⟩
set_option maxRecDepth 100000 in
set_option maxHeartbeats 4000000 in
theorem popI_none (w : World) (lo Q z : Nat) (lv : Value) (m : Nat) (kf : Nat → T) (B : Nat → Nat) (a e : Nat) (h : Que w lo Q z lv m kf B a e) (hlt : ¬ a < e) :
    Calls Tryz.prog 54 #[.pointer (some ⟨Q, z, none⟩)] w fun r w' => r = .returned (.pointer none) ∧ w' = w := by
  have c0 := h.cf
  have e0 : qF B a e = none := if_neg hlt
  rw [e0] at c0
  clear h e0
  go_enter Tryz.func54, Tryz.ntmps54
  go_wp2
  go_ret
  exact ⟨rfl, rfl⟩
end Go.Proofs.YtmlaedpamobmhaaGreat
