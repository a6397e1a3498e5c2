/-
  Turned, and then round, is round, and then turned; nothing is turned into nothing.
-/
import Derived.Test.YtfcmkkagjkkgjaaGbb
namespace Go.Proofs.Ytfcmkkagjkkgjaa
open Go.RowKit
set_option linter.unusedVariables false

theorem meet_nil1 {X : List T} (h : rdV [] = (X, false)) : False := by
  have e : rdV [] = ([], true) := rfl
  rw [e] at h; simp at h
theorem meet_nil3 {X : List T} (h : bkV [] = (X, false)) : False := by
  have e : bkV [] = ([], true) := rfl
  rw [e] at h; simp at h
theorem meet_nil2 {X : List T} (h : rdV (swV []) = (X, false)) : False := by
  have e : rdV (swV []) = ([], true) := rfl
  rw [e] at h; simp at h
theorem meet_nil4 {X : List T} (h : bkV (tuV []) = (X, false)) : False := by
  have e : bkV (tuV []) = ([], true) := rfl
  rw [e] at h; simp at h
theorem turnL_map (f : Nat → T) : ∀ n, turnL f n = (List.range n).map (fun i => (⟨sg (f i) (dg (f i)), (f i).m⟩ : T))
  | 0 => rfl
  | n + 1 => by rw [turnL, turnL_map f n, List.range_succ, List.map_append]; rfl
def tuT (t : T) : T := ⟨sg t (dg t), t.m⟩
theorem tuV_map {L : List T} (h : okL L = true) : tuV L = L.map tuT := by
  have h' : polOk L.length (lf L) = true := h
  unfold tuV mapTurn
  rw [if_pos h', turnL_map]
  refine List.ext_getElem (by simp) (fun i h1 h2 => ?_)
  have hi : i < L.length := by simpa using h2
  rw [List.getElem_map, List.getElem_map, List.getElem_range, lf_eq hi]
  rfl
theorem tuV_len {L : List T} (h : okL L = true) : (tuV L).length = L.length := by rw [tuV_map h, List.length_map]
theorem lf_tu {L : List T} (h : okL L = true) {i : Nat} (hi : i < L.length) : lf (tuV L) i = tuT (lf L i) := by
  have hl := tuV_len h
  rw [lf_eq (by omega), lf_eq hi]
  have e := tuV_map h
  simp only [e, List.getElem_map]
/-- lists that are turned into each other: as many terms, and the same with all less than 0. -/
def Tu (K K' : List T) : Prop := Falls K ∧ Falls K' ∧ K'.length = K.length ∧ Rp stdG K' = Rp (turnG stdG) K
theorem tu_of {K : List T} (hl : K.length ≤ 400) (hK : Falls K) : Tu K (tuV K) := by
  have o := okL_of hl hK
  have h := tu_facts o
  exact ⟨hK, (okL_falls h.1).2, tuV_len o, h.2 stdG⟩
theorem falls_tu {K : List T} (hK : Falls K) : Falls (K.map tuT) := by
  refine ⟨by rw [List.pairwise_map]; exact hK.1, fun t ht => ?_⟩
  obtain ⟨s, hs, rfl⟩ := List.mem_map.1 ht
  have hr := hK.2 s hs
  have h1 := sg_range s (dg s)
  exact ⟨hr.1, sg_pos hr.2.1 hr.2.2, h1.2⟩
theorem Rp_tu (g : Gen) {K : List T} (hK : Falls K) : Rp g (K.map tuT) = Rp (turnG g) K := by
  refine Lq.ext fun u n k => ?_
  show su (K.map tuT) _ = su K _
  rw [su_map]
  refine su_congr (fun t ht => ?_)
  have hr := hK.2 t ht
  obtain ⟨x1, x2, y1, y2, d1, d2, e1, e2⟩ := M.ok_iff.1 hr.1
  show zz (sg t (dg t)) * (mo g t.m).f u n k = zz t.c * (mo (turnG g) t.m).f u n k
  rw [mo_turn g hr.1]
  show _ = zz t.c * (sq1 _ * (mo g t.m).f u n k)
  unfold sg dg
  rw [zz_mod, zz_mul, sgn_at (by omega)]
  grind
theorem tu_eq {K K' : List T} (hK : Falls K) (hK' : Falls K') (h : Rp stdG K' = Rp (turnG stdG) K) : K' = K.map tuT := eq_of_Rp hK' (falls_tu hK) (by rw [h, Rp_tu stdG hK])
theorem add_tu {K X : List T} (hK : Falls K) (hX : Falls X) : addL (K.map tuT) (X.map tuT) = (addL K X).map tuT :=
  tu_eq (addL_facts hK hX).1 (addL_facts (falls_tu hK) (falls_tu hX)).1 (by rw [Rp_add _ (falls_tu hK) (falls_tu hX), Rp_tu _ hK, Rp_tu _ hX, Rp_add _ hK hX])
/-- the number of a term less than 0 as often as is told. -/
theorem pair_tu {a b : T} {m : M} (h : Two a b m) {a' b' : T} (ha : a'.m = a.m ∧ 0 ≤ a'.c ∧ a'.c ≤ 100) (hb : b'.m = b.m ∧ 0 ≤ b'.c ∧ b'.c ≤ 100) (hc : zz a'.c * zz b'.c = zz a.c * zz b.c * (sq1 (dg a).toNat * sq1 (dg b).toNat)) : Two a' b' m ∧ pairL a' b' = (pairL a b).map tuT := by
  have h2 : Two a' b' m := ⟨by rw [ha.1]; exact h.ok1, by rw [hb.1]; exact h.ok2, h.ok3, by rw [ha.1, hb.1]; exact h.gx, by rw [ha.1, hb.1]; exact h.gy, by rw [ha.1, hb.1]; exact h.gd, by rw [ha.1, hb.1]; exact h.ge, ha.2, hb.2⟩
  refine ⟨h2, tu_eq (pairL_facts h).1 (pairL_facts h2).1 ?_⟩
  rw [Rp_pair _ h2, Rp_pair _ h, hc, ha.1, hb.1, mo_turn stdG h.ok1, mo_turn stdG h.ok2]
  simp only [Lq.mul_sc, Lq.sc_mul, Lq.sc_sc]
  congr 1
  unfold dg
  grind
theorem step_tu {K : List T} {a b a' b' : T} (hK : Falls K) (ha0 : a.m.ok = true ∧ 0 ≤ a.c ∧ a.c ≤ 100) (hb0 : b.m.ok = true ∧ 0 ≤ b.c ∧ b.c ≤ 100) (ha : a'.m = a.m ∧ 0 ≤ a'.c ∧ a'.c ≤ 100) (hb : b'.m = b.m ∧ 0 ≤ b'.c ∧ b'.c ≤ 100) (hc : zz a'.c * zz b'.c = zz a.c * zz b.c * (sq1 (dg a).toNat * sq1 (dg b).toNat)) : stepM (K.map tuT) a' b' = (stepM K a b).map (fun X => X.map tuT) := by
  unfold stepM
  rw [ha.1, hb.1]
  by_cases hok : (a.m.sum b.m).ok = true
  · have tw : Two a b (a.m.sum b.m) := ⟨ha0.1, hb0.1, hok, rfl, rfl, rfl, rfl, ha0.2, hb0.2⟩
    have hp := pair_tu tw ha hb hc
    rw [hp.2, add_tu hK (pairL_facts tw).1, List.length_map]
    by_cases hl : (addL K (pairL a b)).length ≤ 400
    · rw [if_pos ⟨hok, hl⟩, if_pos ⟨hok, hl⟩]; rfl
    · rw [if_neg (fun h => hl h.2), if_neg (fun h => hl h.2)]; rfl
  · rw [if_neg (fun h => hok h.1), if_neg (fun h => hok h.1)]; rfl
theorem each_tu {f f' : Nat → T} {la : Nat} (hf : ∀ i, i < la → (f i).m.ok = true ∧ 1 ≤ (f i).c ∧ (f i).c ≤ 100) (he : ∀ i, i < la → f' i = tuT (f i)) : ∀ i, i ≤ la → eachM stMapRound f' i = (eachM stMapRound f i).map (fun X => X.map tuT)
  | 0, _ => rfl
  | i + 1, hi => by
    have ih := each_tu hf he i (by omega)
    rw [eachM, eachM, ih]
    cases hr : eachM stMapRound f i with
    | none => rfl
    | some K1 =>
      have hK := (each_Rg (round_adds stdG) hf i K1 (by omega) hr).1
      have ht := hf i (by omega)
      obtain ⟨x1, x2, y1, y2, d1, d2, e1, e2⟩ := M.ok_iff.1 ht.1
      have hr1 := sg_range (f i) ((f i).m.d + (f i).m.e)
      have hr2 := sg_range (f i) (dg (f i))
      have hA : (rndA (f i)).m.ok = true ∧ 0 ≤ (rndA (f i)).c ∧ (rndA (f i)).c ≤ 100 := ⟨M.ok_iff.2 ⟨by show (0 : Int) ≤ 0; omega, by show (0 : Int) ≤ 15; omega, by show (0 : Int) ≤ 0; omega, by show (0 : Int) ≤ 15; omega, x1, x2, y1, y2⟩, hr1.1, hr1.2⟩
      have hB : (rndB (f i)).m.ok = true ∧ 0 ≤ (rndB (f i)).c ∧ (rndB (f i)).c ≤ 100 := ⟨M.ok_iff.2 ⟨d1, d2, e1, e2, by show (0 : Int) ≤ 0; omega, by show (0 : Int) ≤ 15; omega, by show (0 : Int) ≤ 0; omega, by show (0 : Int) ≤ 15; omega⟩, by show (0 : Int) ≤ 1; omega, by show (1 : Int) ≤ 100; omega⟩
      show (stMapRound (K1.map tuT) (f' i)).bind lim4 = ((stMapRound K1 (f i)).bind lim4).map _
      rw [he i (by omega)]
      have hst : stMapRound (K1.map tuT) (tuT (f i)) = (stMapRound K1 (f i)).map (fun X => X.map tuT) := by
        have hr3 := sg_range (tuT (f i)) ((f i).m.d + (f i).m.e)
        refine step_tu hK hA hB ⟨rfl, hr3.1, hr3.2⟩ ⟨rfl, by show (0 : Int) ≤ 1; omega, by show (1 : Int) ≤ 100; omega⟩ ?_
        show zz (sg (f i) (dg (f i)) * sgn ((f i).m.d + (f i).m.e) % 101) * zz 1 = zz ((f i).c * sgn ((f i).m.d + (f i).m.e) % 101) * zz 1 * (sq1 (0 + 0 + (f i).m.x + (f i).m.y).toNat * sq1 ((f i).m.d + (f i).m.e + 0 + 0).toNat)
        unfold sg dg
        rw [zz_mod, zz_mul, zz_mod, zz_mul, zz_mod, zz_mul, sgn_at (show 0 ≤ (f i).m.x + (f i).m.y + (f i).m.d + (f i).m.e by omega), show ((f i).m.x + (f i).m.y + (f i).m.d + (f i).m.e).toNat = (0 + 0 + (f i).m.x + (f i).m.y).toNat + ((f i).m.d + (f i).m.e + 0 + 0).toNat by omega, sq1_add]
        grind
      rw [hst]
      cases stMapRound K1 (f i) with
      | none => rfl
      | some K2 =>
        show lim4 (K2.map tuT) = (lim4 K2).map _
        unfold lim4
        rw [List.length_map]
        split <;> rfl
theorem rd_tu {A X : List T} (h : rdV A = (X, true)) : rdV (tuV A) = (tuV X, true) := by
  obtain ⟨oA, oX, _⟩ := rd_facts h
  have ht := tu_facts oA
  have h1 : polOk A.length (lf A) = true := oA
  have h2 : polOk (tuV A).length (lf (tuV A)) = true := ht.1
  unfold rdV mapRound mapV at h ⊢
  rw [if_pos h1] at h
  rw [if_pos h2, tuV_len oA, each_tu (fun i hi => (fl_of_ok h1).2 i hi) (fun i hi => lf_tu oA hi) A.length (Nat.le_refl _)]
  cases hm : eachM stMapRound (lf A) A.length with
  | none => rw [hm] at h; simp [mulO] at h
  | some K =>
    rw [hm] at h
    have e : K = X := by simpa [mulO] using h
    rw [e, tuV_map oX]; rfl
end Go.Proofs.Ytfcmkkagjkkgjaa
