/-
  What is left of a pair of operators: what is true of it.
  Whether an operator is free of others: the model.
  The first of some terms that is wanted, and whether there is one: the program.
-/
import Derived.Test.YtbkighpmkadmmaaGbc
import Derived.Test.YtbkighpmkadmmaaGbd
import Derived.Test.YtbkighpmkadmmaaGak
import Derived.Shelf.Abstract
namespace Go.Proofs.Ytbkighpmkadmmaa
open Go.RowKit
set_option linter.unusedVariables false

theorem coef_ne_mem1 {m : M} : ∀ {L : List T}, coef L m ≠ 0 → ∃ t ∈ L, t.m = m
  | [], h => absurd rfl h
  | t :: r, h => by
    rw [coef] at h
    split at h
    · rename_i he
      exact ⟨t, List.mem_cons_self .., meqB_iff.1 he⟩
    · obtain ⟨s, hs, e⟩ := coef_ne_mem1 h
      exact ⟨s, List.mem_cons_of_mem _ hs, e⟩
theorem mem_coef1 {L : List T} (h : Falls L) {t : T} (ht : t ∈ L) : coef L t.m = t.c ∧ coef L t.m ≠ 0 := by
  have h1 : coef L t.m = t.c := by
    induction L with
    | nil => cases ht
    | cons s r ih =>
      rw [coef]
      rcases List.mem_cons.1 ht with rfl | ht'
      · rw [if_pos (meqB_iff.2 rfl)]
      · have h1 := h.head t ht'
        rw [if_neg (fun e => by rw [meqB_iff.1 e] at h1; omega)]
        exact ih h.tail ht'
  have h2 := h.2 t ht
  exact ⟨h1, by omega⟩
theorem mul_okM {a c b : M} (h : M.mul a c = (b, true)) : b.ok = true := by
  unfold M.mul at h
  split at h
  · rename_i q; cases h; exact q.2.2
  · cases h
theorem sprPoly_parts {o : Int} {A B L : List T} (h : sprPoly o (lf A) A.length (lf B) B.length = (L, true)) :
    sprOk o A.length (lf A) B.length (lf B) = true ∧ ∃ X Y, wmV [sprU o A.length (lf A) B.length (lf B)] A = (X, true) ∧ wmV [sprV o A.length (lf A) B.length (lf B)] B = (Y, true) ∧ okL X = true ∧ okL Y = true ∧ L = subL X Y ∧ L.length ≤ 400 := by
  unfold sprPoly at h
  by_cases hk : sprOk o A.length (lf A) B.length (lf B) = true
  · refine ⟨hk, ?_⟩
    rw [if_pos hk] at h
    unfold diffV at h
    by_cases h2 : (wylMul (lf [sprU o A.length (lf A) B.length (lf B)]) 1 (lf A) A.length).2 = true ∧ (wylMul (lf [sprV o A.length (lf A) B.length (lf B)]) 1 (lf B) B.length).2 = true
    · rw [if_pos h2] at h
      obtain ⟨X, hX⟩ : ∃ X, wmV [sprU o A.length (lf A) B.length (lf B)] A = (X, true) := by
        rcases wmV_if [sprU o A.length (lf A) B.length (lf B)] A with e | e
        · exact absurd h2.1 (by rw [show wylMul (lf [sprU o A.length (lf A) B.length (lf B)]) 1 (lf A) A.length = ([], false) from e]; simp)
        · exact e
      obtain ⟨Y, hY⟩ : ∃ Y, wmV [sprV o A.length (lf A) B.length (lf B)] B = (Y, true) := by
        rcases wmV_if [sprV o A.length (lf A) B.length (lf B)] B with e | e
        · exact absurd h2.2 (by rw [show wylMul (lf [sprV o A.length (lf A) B.length (lf B)]) 1 (lf B) B.length = ([], false) from e]; simp)
        · exact e
      rw [show wylMul (lf [sprU o A.length (lf A) B.length (lf B)]) 1 (lf A) A.length = (X, true) from hX, show wylMul (lf [sprV o A.length (lf A) B.length (lf B)]) 1 (lf B) B.length = (Y, true) from hY] at h
      rcases subV_case X Y with e | ⟨_, _, hl, e⟩
      · rw [show polSub (lf X) X.length (lf Y) Y.length = ([], false) from e] at h
        cases h
      · rw [show polSub (lf X) X.length (lf Y) Y.length = (subL X Y, true) from e] at h
        have hL : subL X Y = L := by cases h; rfl
        exact ⟨X, Y, hX, hY, wm_ok hX, wm_ok hY, hL.symm, by rw [← hL]; exact hl⟩
    · rw [if_neg h2] at h; cases h
  · rw [if_neg hk] at h; cases h
theorem sprPoly_of {o : Int} {A B X Y : List T} (hk : sprOk o A.length (lf A) B.length (lf B) = true) (hX : wmV [sprU o A.length (lf A) B.length (lf B)] A = (X, true)) (hY : wmV [sprV o A.length (lf A) B.length (lf B)] B = (Y, true)) : sprPoly o (lf A) A.length (lf B) B.length = subV X Y := by
  unfold sprPoly diffV
  rw [if_pos hk, show wylMul (lf [sprU o A.length (lf A) B.length (lf B)]) 1 (lf A) A.length = (X, true) from hX, show wylMul (lf [sprV o A.length (lf A) B.length (lf B)]) 1 (lf B) B.length = (Y, true) from hY]
  exact if_pos ⟨rfl, rfl⟩
theorem sprOk_comm (o : Int) (n : Nat) (f : Nat → T) (m : Nat) (g : Nat → T) : sprOk o m g n f = sprOk o n f m g := by
  unfold sprOk; rw [Bool.and_comm]
theorem sprU_swap (o : Int) (n : Nat) (f : Nat → T) (m : Nat) (g : Nat → T) : sprU o m g n f = sprV o n f m g := by
  unfold sprU sprV sprB; rw [sprOk_comm, M.both_comm]
theorem sprV_swap (o : Int) (n : Nat) (f : Nat → T) (m : Nat) (g : Nat → T) : sprV o m g n f = sprU o n f m g := by
  unfold sprU sprV sprB; rw [sprOk_comm, M.both_comm]
/-- the other way round it is less than 0. -/
theorem spr_swap {o : Int} {A B L : List T} (h : sprPoly o (lf A) A.length (lf B) B.length = (L, true)) : sprPoly o (lf B) B.length (lf A) A.length = (scL 100 L, true) := by
  obtain ⟨hk, X, Y, hX, hY, oX, oY, rfl, hl⟩ := sprPoly_parts h
  have hk' : sprOk o B.length (lf B) A.length (lf A) = true := by rw [sprOk_comm]; exact hk
  rw [sprPoly_of hk' (by rw [sprU_swap]; exact hY) (by rw [sprV_swap]; exact hX)]
  have e := sub_swap (okL_falls oX).2 (okL_falls oY).2
  rw [subV_ok oY oX (by rw [e, scL_len]; exact hl), e]
theorem spr_ok {o : Int} {A B L : List T} (h : sprPoly o (lf A) A.length (lf B) B.length = (L, true)) : okL L = true := by
  obtain ⟨hk, X, Y, hX, hY, oX, oY, rfl, hl⟩ := sprPoly_parts h
  exact okL_of hl (subL_facts (okL_falls oX).2 (okL_falls oY).2).1
/-- of one and itself nothing is left. -/
theorem spr_self (o : Int) (A : List T) : (sprPoly o (lf A) A.length (lf A) A.length).1 = [] := by
  obtain ⟨L, b, h⟩ : ∃ L b, sprPoly o (lf A) A.length (lf A) A.length = (L, b) := ⟨_, _, rfl⟩
  rw [h]
  cases b
  · unfold sprPoly diffV at h
    split at h
    · split at h
      · rcases subV_case (wylMul (lf [sprU o A.length (lf A) A.length (lf A)]) 1 (lf A) A.length).1 (wylMul (lf [sprV o A.length (lf A) A.length (lf A)]) 1 (lf A) A.length).1 with e | ⟨_, _, _, e⟩
        · have := h.symm.trans (show polSub _ _ _ _ = ([], false) from e); cases this; rfl
        · have := h.symm.trans (show polSub _ _ _ _ = (_, true) from e); cases this
      · cases h; rfl
    · cases h; rfl
  · obtain ⟨hk, X, Y, hX, hY, oX, oY, rfl, hl⟩ := sprPoly_parts h
    have hUV : sprU o A.length (lf A) A.length (lf A) = sprV o A.length (lf A) A.length (lf A) := by unfold sprU sprV; rfl
    rw [hUV, hY] at hX
    have : Y = X := by cases hX; rfl
    subst this
    exact sub_self (okL_falls oX).2
theorem top_prod {o : Int} {u : T} {A X : List T} (gu : u.m.ok = true ∧ 1 ≤ u.c ∧ u.c ≤ 100) (hA : ldB o A = true) (h : wmV [u] A = (X, true)) {b : M} (hb : M.mul u.m (ldT o A).m = (b, true)) (hc : fMul u.c (ldT o A).c = 1) :
    coef X b = 1 ∧ ∀ t ∈ X, rkW o t.m ≤ rkW o b := by
  obtain ⟨ho, oA, _⟩ := ldB_iff.1 hA
  have hu : ldB o [u] = true := ldB_iff.2 ⟨ho, one_ok gu, by simp⟩
  obtain ⟨e1, e2⟩ := ld_prod ho h
  rw [hu, hA] at e1
  have hX : ldB o X = true := e1
  obtain ⟨e3, e4⟩ := e2 hu hA
  have eu : ldT o [u] = u := by
    have := (ld_top hu).1
    simpa using this
  rw [eu] at e3 e4
  have eb : (ldT o X).m = b := by
    have := e3.symm.trans (show M.mul ⟨u.m.x, u.m.y, u.m.d, u.m.e⟩ ⟨(ldT o A).m.x, (ldT o A).m.y, (ldT o A).m.d, (ldT o A).m.e⟩ = (b, true) from hb)
    cases this; rfl
  obtain ⟨t1, t2⟩ := ld_top hX
  have hm := (mem_coef1 (okL_falls (wm_ok h)).2 t1).1
  rw [eb] at t2 hm
  refine ⟨?_, t2⟩
  rw [hm, ← e4, hc]
/-- no monomial of it is as great as what both greatest ones divide. -/
theorem spr_below {o : Int} {A B L : List T} (h : sprPoly o (lf A) A.length (lf B) B.length = (L, true)) : ∀ t ∈ L, M.cmp o t.m (sprB o A.length (lf A) B.length (lf B)) < 0 := by
  obtain ⟨hk, X, Y, hX, hY, oX, oY, rfl, hl⟩ := sprPoly_parts h
  obtain ⟨gU, gV⟩ := spr_good hk
  obtain ⟨m1, m2, c1, c2, _⟩ := spr_law hk
  have hk' := hk
  unfold sprOk at hk'
  rw [Bool.and_eq_true] at hk'
  obtain ⟨x1, x2⟩ := top_prod gU (show ldB o A = true from hk'.1) hX m1 c1
  obtain ⟨y1, y2⟩ := top_prod gV (show ldB o B = true from hk'.2) hY m2 c2
  have fX := (okL_falls oX).2
  have fY := (okL_falls oY).2
  obtain ⟨fL, cL⟩ := subL_facts fX fY
  have ho := (leadOk_parts hk'.1).1
  have hbok : (sprB o A.length (lf A) B.length (lf B)).ok = true := mul_okM m1
  generalize sprB o A.length (lf A) B.length (lf B) = b at *
  intro t ht
  have tok := (fL.2 t ht).1
  obtain ⟨q1, q2⟩ := mem_coef1 fL ht
  have hne : t.m ≠ b := fun e => by
    apply q2
    rw [e, cL b, x1, y1]
    decide
  have hle : rkW o t.m ≤ rkW o b := by
    by_cases hx : coef X t.m = 0
    · by_cases hy : coef Y t.m = 0
      · exact absurd (by rw [cL, hx, hy]; decide) q2
      · obtain ⟨s, hs, e⟩ := coef_ne_mem1 hy
        rw [← e]; exact y2 s hs
    · obtain ⟨s, hs, e⟩ := coef_ne_mem1 hx
      rw [← e]; exact x2 s hs
  have hlt : rkW o t.m ≠ rkW o b := fun e => hne (rkW_inj _ _ tok hbok e)
  unfold M.cmp
  rw [if_pos ⟨ho, tok, hbok⟩, rkW_ord ho tok hbok]
  unfold c3
  split
  · omega
  · split <;> omega
end Go.Proofs.Ytbkighpmkadmmaa
namespace Go.Proofs.Ytbkighpmkadmmaa
open Go.RowKit Go.Deep Go.Joins
set_option linter.unusedVariables false

theorem lstOk_all {n : Nat} {ln : Nat → Nat} {f : Nat → Nat → T} (h : lstOk n ln f = true) : n ≤ 12 ∧ ∀ i, i < n → ln i ≠ 0 ∧ polOk (ln i) (f i) = true := of_decide_eq_true h
set_option maxRecDepth 100000 in
set_option maxHeartbeats 4000000 in
theorem redFreeS (w : World) (o : Int) (pa : Option Addr) (np pc : Nat) (p : Nat → T) (hp : Rd w pa np pc p) (a : Option Addr) (n cap : Nat) (ad : Nat → Option Addr) (ln cp : Nat → Nat) (f : Nat → Nat → T) (h : RdS w a n cap ad ln cp f) :
    Calls Try.prog 22 #[.int .i64 o, .slice pa np pc, .slice a n cap] w fun r w' => r = .returned (.bool (redFree o np p n ln f)) ∧ Below w.heap.size w w' := by
  have hnp : (np : Int) ≤ 140737488351232 := by have := hp.2.1; omega
  have HP := Hid.mk' hp
  have HH := Hid.mk' h
  clear hp h
  by_cases ho : 1 ≤ o ∧ o ≤ 3
  · obtain ⟨ho1, ho2⟩ := ho
    cases hop : polOk np p
    · have e : redFree o np p n ln f = false := decide_eq_false (fun hh => by have := hh.2.1; rw [hop] at this; cases this)
      rw [e]
      go_enter Try.func22, Try.ntmps22
      go_wp2_with fail
      refine (inS_in o 1 3 _ ho1 ho2).mono ?_
      rintro e w' ⟨rfl, hw'⟩
      obtain rfl := hw'.symm
      clear hw'
      go_wp2_with fail
      refine (polOkS _ _ _ _ p HP.out).mono ?_
      rw [hop]
      rintro r w1 ⟨rfl, hb⟩
      have HB1 := Hid.mk' hb
      clear hb
      go_wp2
      go_ret
      exact ⟨rfl, HB1.out⟩
    · cases hls : lstOk n ln f
      · have e : redFree o np p n ln f = false := decide_eq_false (fun hh => by have := hh.2.2.1; rw [hls] at this; cases this)
        rw [e]
        go_enter Try.func22, Try.ntmps22
        go_wp2_with fail
        refine (inS_in o 1 3 _ ho1 ho2).mono ?_
        rintro e w' ⟨rfl, hw'⟩
        obtain rfl := hw'.symm
        clear hw'
        go_wp2_with fail
        refine (polOkS _ _ _ _ p HP.out).mono ?_
        rw [hop]
        rintro r w1 ⟨rfl, hb⟩
        have HB1 := Hid.mk' hb
        have HH1 := Hid.mk' (HH.out.below hb)
        clear hb
        go_wp2_with fail
        refine (lstOkS _ _ _ _ _ _ _ _ HH1.out).mono ?_
        rw [hls]
        rintro r w2 ⟨rfl, hb2⟩
        have HB2 := Hid.mk' (bel_next HB1.out hb2)
        clear hb2
        go_wp2
        go_ret
        exact ⟨rfl, HB2.out⟩
      · have hall := lstOk_all hls
        have HA := Hid.mk' hall.2
        clear hall
        go_enter Try.func22, Try.ntmps22
        go_wp2_with fail
        refine (inS_in o 1 3 _ ho1 ho2).mono ?_
        rintro e w' ⟨rfl, hw'⟩
        obtain rfl := hw'.symm
        clear hw'
        go_wp2_with fail
        refine (polOkS _ _ _ _ p HP.out).mono ?_
        rw [hop]
        rintro r w1 ⟨rfl, hb⟩
        have HB1 := Hid.mk' hb
        have HH1 := Hid.mk' (HH.out.below hb)
        clear hb
        go_wp2_with fail
        refine (lstOkS _ _ _ _ _ _ _ _ HH1.out).mono ?_
        rw [hls]
        rintro r w2 ⟨rfl, hb2⟩
        have HB2 := Hid.mk' (bel_next HB1.out hb2)
        clear hb2 HH1 HB1
        go_wp2
        go_loopw [7] (fun v wr => ∃ k : Nat, k ≤ np ∧ v = .int .i64 (k : Int) ∧ Below w.heap.size w wr ∧ ∀ j, j < k → ∀ i, i < n → M.dvd (ldAt o ln f i).m (p j).m = false) (fun v _ => np - (intOf v).toNat)
        case atStart => exact ⟨0, Nat.zero_le _, rfl, HB2.out, fun j hj => by omega⟩
        case round =>
          obtain ⟨k, hk, rfl, hB, hJ⟩ := hrel
          have HJ := Hid.mk' hJ
          have HB := Hid.mk' hB
          clear hJ
          by_cases hlt : k < np
          · have hkl : (k : Int) < (np : Int) := by omega
            have hri := HP.out.below hB
            rcases hri.2.2 with h0 | ⟨b, off, hpe, hblt, hcl⟩
            · omega
            obtain ⟨g0, g1, g2, g3, g4⟩ := hcl k hlt
            have HR := Hid.mk' (HH.out.below hB)
            subst hpe
            clear hcl hri hB
            by_cases hfr : ∀ i, i < n → M.dvd (ldAt o ln f i).m (p k).m = false
            · have HF := Hid.mk' hfr
              clear hfr
              go_wp2_with fail
              refine (l7FindS _ o _ _ _ _ _ _ _ (p k).m HR.out HA.out).mono ?_
              rintro e w4 ⟨z, rfl, hb4, hz1, hz2⟩
              have hz := hz1 HF.out
              subst hz
              have HB4 := Hid.mk' (bel_next HB.out hb4)
              clear hb4 hz1 hz2 g0 g1 g2 g3 g4
              go_wp2
              go_roundw
              case rel => exact ⟨k + 1, by omega, by go_num, HB4.out, fun j hj => by
                by_cases e : j = k
                · rw [e]; exact HF.out
                · exact HJ.out j (by omega)⟩
              case measure => simp [intOf]; omega
            · have HE : Hid (redFree o np p n ln f = false) := decide_eq_false (fun hh => hfr (hh.2.2.2 k hlt))
              have hex : ∃ i, i < n ∧ M.dvd (ldAt o ln f i).m (p k).m = true := Classical.byContradiction (fun hc => hfr (fun i hi => by
                cases hd : M.dvd (ldAt o ln f i).m (p k).m
                · rfl
                · exact absurd ⟨i, hi, hd⟩ hc))
              have HX := Hid.mk' hex
              clear hfr hex
              go_wp2_with fail
              refine (l7FindS _ o _ _ _ _ _ _ _ (p k).m HR.out HA.out).mono ?_
              rintro e w4 ⟨z, rfl, hb4, hz1, hz2⟩
              have hz : 0 ≤ z := by
                obtain ⟨i, hi, hd⟩ := HX.out
                exact hz2 i hi hd
              have HB4 := Hid.mk' (bel_next HB.out hb4)
              clear hb4 hz1 hz2 g0 g1 g2 g3 g4
              go_wp2
              go_ret
              exact ⟨congrArg (fun z => Ending.returned (Value.bool z)) HE.out.symm, HB4.out⟩
          · have hnl : ¬ (k : Int) < (np : Int) := by omega
            have hie : k = np := by omega
            subst hie
            have HE : Hid (redFree o k p n ln f = true) := decide_eq_true ⟨⟨ho1, ho2⟩, hop, hls, HJ.out⟩
            go_wp2
            go_ret
            exact ⟨congrArg (fun z => Ending.returned (Value.bool z)) HE.out.symm, HB.out⟩
  · have e : redFree o np p n ln f = false := decide_eq_false (fun hh => ho hh.1)
    have hout : o < 1 ∨ (1 ≤ o ∧ 3 < o) := by omega
    rw [e]
    clear ho
    go_enter Try.func22, Try.ntmps22
    go_wp2_with fail
    refine (inS_out o 1 3 _ hout).mono ?_
    rintro e w' ⟨rfl, hw'⟩
    obtain rfl := hw'.symm
    clear hw'
    go_wp2
    go_ret
    exact ⟨rfl, Below.refl _ _⟩
end Go.Proofs.Ytbkighpmkadmmaa
namespace Go.Proofs.Ytbkighpmkadmmaa
open Go.RowKit Go.Deep Go.Joins
set_option linter.unusedVariables false

/-- the place of the first of the first terms that is wanted; -1, if there is none. -/
def idxF (p : T → Bool) (f : Nat → T) : Nat → Int
  | 0 => -1
  | n + 1 => if 0 ≤ idxF p f n then idxF p f n else if p (f n) = true then (n : Int) else -1
theorem idx_none {p : T → Bool} {f : Nat → T} : ∀ {k : Nat}, (∀ j, j < k → p (f j) = false) → idxF p f k = -1
  | 0, _ => rfl
  | k + 1, h => by
    have h1 := idx_none (p := p) (f := f) (k := k) (fun j hj => h j (by omega))
    unfold idxF
    rw [h1, if_neg (by omega), if_neg (by rw [h k (by omega)]; decide)]
theorem idx_hit {p : T → Bool} {f : Nat → T} {k : Nat} (h : ∀ j, j < k → p (f j) = false) (hk : p (f k) = true) : ∀ n, k < n → idxF p f n = (k : Int)
  | 0, h0 => by omega
  | n + 1, h0 => by
    by_cases e : k = n
    · subst e
      unfold idxF
      rw [idx_none h, if_neg (by omega), if_pos hk]
    · have h1 := idx_hit h hk n (by omega)
      unfold idxF
      rw [h1, if_pos (by omega)]
theorem idx_iff {p : T → Bool} {f : Nat → T} : ∀ {n : Nat}, 0 ≤ idxF p f n ↔ ∃ i, i < n ∧ p (f i) = true
  | 0 => ⟨fun h => absurd (show (0 : Int) ≤ -1 from h) (by decide), fun ⟨_, h, _⟩ => by omega⟩
  | n + 1 => by
    have ih := idx_iff (p := p) (f := f) (n := n)
    unfold idxF
    by_cases h : 0 ≤ idxF p f n
    · rw [if_pos h]
      exact ⟨fun _ => by obtain ⟨i, hi, hp⟩ := ih.1 h; exact ⟨i, by omega, hp⟩, fun _ => h⟩
    · rw [if_neg h]
      by_cases hp : p (f n) = true
      · rw [if_pos hp]
        exact ⟨fun _ => ⟨n, by omega, hp⟩, fun _ => by omega⟩
      · rw [if_neg hp]
        refine ⟨fun hh => absurd hh (by decide), fun ⟨i, hi, hpi⟩ => ?_⟩
        by_cases e : i = n
        · subst e; exact absurd hpi hp
        · exact absurd (ih.2 ⟨i, by omega, hpi⟩) h
/-- a function that says which of the terms are wanted, wherever Q is. -/
def WantsK (g : Nat) (lb : Array Value) (p : T → Bool) (Q : World → Prop) (f : Nat → T) (n : Nat) : Prop :=
  ∀ (k : Nat) (W : World), k < n → Q W → Calls Try.prog g (#[.agg #[.int .i64 (f k).c, .int .i64 (f k).m.x, .int .i64 (f k).m.y, .int .i64 (f k).m.d, .int .i64 (f k).m.e]] ++ lb) W fun r w' => r = .returned (.bool (p (f k))) ∧ Below W.heap.size W w'
set_option maxRecDepth 100000 in
set_option maxHeartbeats 8000000 in
theorem idxI (w : World) (a : Option Addr) (n cap : Nat) (f : Nat → T) (g : Nat) (lb : Array Value) (p : T → Bool) (Q : World → Prop) (eg : ∀ args w, (callFunc g args).run Try.prog w = .ok (.enter g args) w) (hW : WantsK g lb p Q f n) (hQ : ∀ W', Below w.heap.size w W' → Q W') (h : Rd w a n cap f) :
    Calls Try.prog 84 #[.slice a n cap, .func (.func g) #[] lb] w fun r w' => r = .returned (.int .i64 (idxF p f n)) ∧ Below w.heap.size w w' := by
  have HA := Hid.mk' h
  have HW := Hid.mk' hW
  have HQ := Hid.mk' hQ
  have hn : (n : Int) ≤ 140737488351232 := by have := h.2.1; omega
  clear h hW hQ
  go_enter Try.func84, Try.ntmps84
  go_wp2
  go_loopw [8] (fun v wr => ∃ k : Nat, k ≤ n ∧ v = .int .i64 (k : Int) ∧ Below w.heap.size w wr ∧ ∀ j, j < k → p (f j) = false) (fun v _ => n - (intOf v).toNat)
  case atStart => exact ⟨0, Nat.zero_le _, rfl, Below.refl _ _, fun j hj => by omega⟩
  case round =>
    obtain ⟨k, hk, rfl, hB, hJ⟩ := hrel
    have HJ := Hid.mk' hJ
    have HB := Hid.mk' hB
    clear hJ
    by_cases hlt : k < n
    · have hkn : (k : Int) < (n : Int) := by omega
      have hri := HA.out.below hB
      rcases hri.2.2 with h0 | ⟨b, off, hpe, hblt, hcl⟩
      · omega
      obtain ⟨g0, g1, g2, g3, g4⟩ := hcl k hlt
      have HCALL := Hid.mk' (HW.out k wr hlt (HQ.out _ hB))
      clear hcl hri hB
      subst hpe
      cases hpk : p (f k)
      · have HP := Hid.mk' hpk
        go_wp2_with fail
        refine HCALL.out.mono ?_
        rw [hpk]
        rintro r w4 ⟨rfl, hb4⟩
        have HB4 := Hid.mk' (bel_next HB.out hb4)
        clear hb4 g0 g1 g2 g3 g4 hpk
        go_wp2
        go_roundw
        case rel => exact ⟨k + 1, by omega, by go_num, HB4.out, fun j hj => by
          by_cases e : j = k
          · rw [e]; exact HP.out
          · exact HJ.out j (by omega)⟩
        case measure => simp [intOf]; omega
      · have HE : Hid (idxF p f n = (k : Int)) := idx_hit HJ.out hpk n hlt
        go_wp2_with fail
        refine HCALL.out.mono ?_
        rw [hpk]
        rintro r w4 ⟨rfl, hb4⟩
        have HB4 := Hid.mk' (bel_next HB.out hb4)
        clear hb4 g0 g1 g2 g3 g4 hpk
        go_wp2
        go_ret
        exact ⟨congrArg (fun z => Ending.returned (Value.int IntKind.i64 z)) HE.out.symm, HB4.out⟩
    · have hnl : ¬ (k : Int) < (n : Int) := by omega
      have hie : k = n := by omega
      subst hie
      have HE : Hid (idxF p f k = -1) := idx_none HJ.out
      go_wp2
      go_ret
      exact ⟨congrArg (fun z => Ending.returned (Value.int IntKind.i64 z)) HE.out.symm, HB.out⟩
set_option maxRecDepth 100000 in
set_option maxHeartbeats 4000000 in
theorem hasI (w : World) (a : Option Addr) (n cap : Nat) (f : Nat → T) (g : Nat) (lb : Array Value) (p : T → Bool) (Q : World → Prop) (eg : ∀ args w, (callFunc g args).run Try.prog w = .ok (.enter g args) w) (hW : WantsK g lb p Q f n) (hQ : ∀ W', Below w.heap.size w W' → Q W') (h : Rd w a n cap f) :
    Calls Try.prog 56 #[.slice a n cap, .func (.func g) #[] lb] w fun r w' => r = .returned (.bool (decide (0 ≤ idxF p f n))) ∧ Below w.heap.size w w' := by
  have HI := Hid.mk' (idxI w a n cap f g lb p Q eg hW hQ h)
  clear hW hQ h
  obtain ⟨z, hz⟩ : ∃ z, idxF p f n = z := ⟨_, rfl⟩
  rw [hz]
  by_cases h0 : 0 ≤ z
  · rw [decide_eq_true h0]
    go_enter Try.func56, Try.ntmps56
    go_wp2_with fail
    refine HI.out.mono ?_
    rw [hz]
    rintro r w1 ⟨rfl, hb⟩
    have HB := Hid.mk' hb
    clear hb HI hz
    go_wp2
    go_ret
    exact ⟨rfl, HB.out⟩
  · rw [decide_eq_false h0]
    go_enter Try.func56, Try.ntmps56
    go_wp2_with fail
    refine HI.out.mono ?_
    rw [hz]
    rintro r w1 ⟨rfl, hb⟩
    have HB := Hid.mk' hb
    clear hb HI hz
    go_wp2
    go_ret
    exact ⟨congrArg (fun z => Ending.returned (Value.bool z)) (decide_eq_false (by omega)), HB.out⟩
set_option maxHeartbeats 2000000 in
theorem first1 (t : T) (m : M) (B : Nat) (W : World) (h : M4 W B m.x m.y m.d m.e) :
    Calls Try.prog 85 #[.agg #[.int .i64 t.c, .int .i64 t.m.x, .int .i64 t.m.y, .int .i64 t.m.d, .int .i64 t.m.e], .pointer (some ⟨B, 0, none⟩)] W fun r w' => r = .returned (.bool (M.dvd t.m m)) ∧ Below W.heap.size W w' := by
  obtain ⟨bv, hbv⟩ : ∃ bv, M.dvd ⟨t.m.x, t.m.y, t.m.d, t.m.e⟩ ⟨m.x, m.y, m.d, m.e⟩ = bv := ⟨_, rfl⟩
  rw [show M.dvd t.m m = bv from hbv]
  have HD := Hid.mk' hbv
  have B1w := Hid.mk' (bel_one W (.cells #[.int .i64 t.c, .int .i64 t.m.x, .int .i64 t.m.y, .int .i64 t.m.d, .int .i64 t.m.e] 33))
  have hlt := h.lt
  obtain ⟨c1, c2, c3, c4⟩ := h
  clear hbv
  go_enter Try.func85, Try.ntmps85
  go_wp2_with fail
  refine (monDividesI_of HD.out _).mono ?_
  rintro r w1 ⟨rfl, hb⟩
  have HB := Hid.mk' (bel_next B1w.out hb)
  clear hb c1 c2 c3 c4
  go_wp2
  go_ret
  exact ⟨rfl, HB.out⟩
set_option maxRecDepth 100000 in
set_option maxHeartbeats 4000000 in
theorem redFirstI (w : World) (a : Option Addr) (n cap : Nat) (f : Nat → T) (m : M) (h : Rd w a n cap f) :
    Calls Try.prog 50 #[.slice a n cap, .agg #[.int .i64 m.x, .int .i64 m.y, .int .i64 m.d, .int .i64 m.e]] w fun r w' => r = .returned (.int .i64 (idxF (fun t => M.dvd t.m m) f n)) ∧ Below w.heap.size w w' := by
  have HI := Hid.mk' (idxI (w.alloc (.cells #[.int .i64 m.x, .int .i64 m.y, .int .i64 m.d, .int .i64 m.e] 31)) a n cap f 85 #[.pointer (some ⟨w.heap.size, 0, none⟩)] (fun t => M.dvd t.m m) (fun W => M4 W w.heap.size m.x m.y m.d m.e) (enters_of Try.func85 (by kernel_rfl) rfl) (fun k W hk hQ => first1 (f k) m _ W hQ) (fun W' hb => (M4.box w 31 m.x m.y m.d m.e).below hb) (h.below (bel_one w _)))
  have HB0 := Hid.mk' (bel_one w (.cells #[.int .i64 m.x, .int .i64 m.y, .int .i64 m.d, .int .i64 m.e] 31))
  clear h
  go_enter Try.func50, Try.ntmps50
  go_wp2_with fail
  refine HI.out.mono ?_
  rintro r w1 ⟨rfl, hb⟩
  have HB := Hid.mk' (bel_next HB0.out hb)
  clear hb HI HB0
  go_wp2
  go_ret
  exact ⟨rfl, HB.out⟩
set_option maxHeartbeats 4000000 in
theorem free1 (t : T) (a : Option Addr) (n cap : Nat) (f : Nat → T) (B : Nat) (W : World) (h : Rd W a n cap f) (hc : W.cell? ⟨B, 0, none⟩ = some (.slice a n cap)) :
    Calls Try.prog 57 #[.agg #[.int .i64 t.c, .int .i64 t.m.x, .int .i64 t.m.y, .int .i64 t.m.d, .int .i64 t.m.e], .pointer (some ⟨B, 0, none⟩)] W fun r w' => r = .returned (.bool (decide (0 ≤ idxF (fun s => M.dvd s.m t.m) f n))) ∧ Below W.heap.size W w' := by
  have l1 := World.block_lt_of_cell? W _ hc
  have B1w := Hid.mk' (bel_one W (.cells #[.int .i64 t.c, .int .i64 t.m.x, .int .i64 t.m.y, .int .i64 t.m.d, .int .i64 t.m.e] 33))
  obtain ⟨z, hz⟩ : ∃ z, idxF (fun s => M.dvd s.m t.m) f n = z := ⟨_, rfl⟩
  rw [hz]
  have hcall : Calls Try.prog 50 #[.slice a n cap, .agg #[.int .i64 t.m.x, .int .i64 t.m.y, .int .i64 t.m.d, .int .i64 t.m.e]] (W.alloc (.cells #[.int .i64 t.c, .int .i64 t.m.x, .int .i64 t.m.y, .int .i64 t.m.d, .int .i64 t.m.e] 33)) fun r w' => r = .returned (.int .i64 z) ∧ Below (W.alloc (.cells #[.int .i64 t.c, .int .i64 t.m.x, .int .i64 t.m.y, .int .i64 t.m.d, .int .i64 t.m.e] 33)).heap.size (W.alloc (.cells #[.int .i64 t.c, .int .i64 t.m.x, .int .i64 t.m.y, .int .i64 t.m.d, .int .i64 t.m.e] 33)) w' := by
    rw [← hz]
    exact redFirstI _ a n cap f t.m (h.below B1w.out)
  have HC := Hid.mk' hcall
  clear h hz hcall
  by_cases h0 : 0 ≤ z
  · rw [decide_eq_true h0]
    go_enter Try.func57, Try.ntmps57
    go_wp2_with fail
    refine HC.out.mono ?_
    rintro r w1 ⟨rfl, hb⟩
    have HB := Hid.mk' (bel_next B1w.out hb)
    clear hb hc HC
    go_wp2
    go_ret
    exact ⟨rfl, HB.out⟩
  · rw [decide_eq_false h0]
    go_enter Try.func57, Try.ntmps57
    go_wp2_with fail
    refine HC.out.mono ?_
    rintro r w1 ⟨rfl, hb⟩
    have HB := Hid.mk' (bel_next B1w.out hb)
    clear hb hc HC
    go_wp2
    go_ret
    exact ⟨congrArg (fun z => Ending.returned (Value.bool z)) (decide_eq_false (by omega)), HB.out⟩
end Go.Proofs.Ytbkighpmkadmmaa
