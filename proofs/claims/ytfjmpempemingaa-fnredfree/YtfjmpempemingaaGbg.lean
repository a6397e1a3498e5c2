/-
  What is true of products: brackets, sums on both sides, how far two are apart.
  What is left of a pair of operators: the program and the model.
  The greatest terms of a product: whatever is counted so that a slope and its time count at least 1 together.
-/
import Derived.Test.YtfjmpempemingaaGbf
import Derived.Test.YtfjmpempemingaaGar
namespace Go.Proofs.Ytfjmpempemingaa
open Go.RowKit
set_option linter.unusedVariables false

theorem wm_ok {A B P : List T} (h : wmV A B = (P, true)) : okL P = true := by
  rcases wmV_case A B with h1 | ⟨Q, h1, o⟩
  · rw [h1] at h; simp at h
  · rw [h1] at h
    simp only [Prod.mk.injEq, and_true] at h
    rw [← h]; exact o
theorem wmV_if (A B : List T) : wmV A B = ([], false) ∨ ∃ P, wmV A B = (P, true) := (wmV_case A B).imp id (fun ⟨P, h, _⟩ => ⟨P, h⟩)
theorem addV_if (A B : List T) : addV A B = ([], false) ∨ ∃ P, addV A B = (P, true) := (addV_case A B).imp id (fun ⟨_, _, _, h⟩ => ⟨_, h⟩)
theorem wm_falls {A B P : List T} (h : wmV A B = (P, true)) : Falls P := (okL_falls (wm_ok h)).2
theorem wm_args {A B P : List T} (h : wmV A B = (P, true)) : okL A = true ∧ okL B = true := by
  unfold wmV wylMul at h
  split at h
  · rename_i hh; exact hh
  · simp at h
theorem wm_assoc {A B C X Y U V : List T} (h1 : wmV A B = (X, true)) (h2 : wmV B C = (Y, true)) (h3 : wmV X C = (U, true)) (h4 : wmV A Y = (V, true)) : U = V := by
  refine eq_of_Rp (wm_falls h3) (wm_falls h4) ?_
  rw [Rp_mul _ h3, Rp_mul _ h1, Rp_mul _ h4, Rp_mul _ h2, Lq.mul_assoc]
theorem addV_eq {A B S : List T} (oA : okL A = true) (oB : okL B = true) (oS : okL S = true) (h : Lq.sum (Rp stdG A) (Rp stdG B) = Rp stdG S) : addV A B = (S, true) := by
  have e : addL A B = S := eq_of_Rp (addL_facts (okL_falls oA).2 (okL_falls oB).2).1 (okL_falls oS).2 (by rw [Rp_add _ (okL_falls oA).2 (okL_falls oB).2]; exact h)
  rw [addV_ok oA oB (by rw [e]; exact (okL_falls oS).1), e]
theorem wm_left {A B C S X Y U : List T} (hS : addV B C = (S, true)) (h1 : wmV A B = (X, true)) (h2 : wmV A C = (Y, true)) (h3 : wmV A S = (U, true)) : addV X Y = (U, true) := by
  rcases addV_case B C with h | ⟨oB, oC, hl, h⟩
  · rw [h] at hS; simp at hS
  rw [h] at hS
  simp only [Prod.mk.injEq, and_true] at hS
  refine addV_eq (wm_ok h1) (wm_ok h2) (wm_ok h3) ?_
  rw [Rp_mul _ h1, Rp_mul _ h2, Rp_mul _ h3, ← hS, Rp_add _ (okL_falls oB).2 (okL_falls oC).2, Lq.mul_sum]
theorem wm_right {A B C S X Y U : List T} (hS : addV B C = (S, true)) (h1 : wmV B A = (X, true)) (h2 : wmV C A = (Y, true)) (h3 : wmV S A = (U, true)) : addV X Y = (U, true) := by
  rcases addV_case B C with h | ⟨oB, oC, hl, h⟩
  · rw [h] at hS; simp at hS
  rw [h] at hS
  simp only [Prod.mk.injEq, and_true] at hS
  refine addV_eq (wm_ok h1) (wm_ok h2) (wm_ok h3) ?_
  rw [Rp_mul _ h1, Rp_mul _ h2, Rp_mul _ h3, ← hS, Rp_add _ (okL_falls oB).2 (okL_falls oC).2, Lq.sum_mul]
/-! so many times a product -/
def scT1 (c : Int) (t : T) : T := ⟨c * t.c % 101, t.m⟩
theorem addL_sc {c : Int} (c1 : 1 ≤ c) (c2 : c ≤ 100) {K X : List T} (hK : Falls K) (hX : Falls X) : addL (scL c K) (scL c X) = scL c (addL K X) := by
  have f1 := scL_falls c1 c2 hK
  have f2 := scL_falls c1 c2 hX
  refine eq_of_Rp (addL_facts f1 f2).1 (scL_falls c1 c2 (addL_facts hK hX).1) ?_
  rw [Rp_add _ f1 f2, Rp_sc, Rp_sc, Rp_sc, Rp_add _ hK hX, Lq.sc_sum]
theorem pair_sc {c : Int} (c1 : 1 ≤ c) (c2 : c ≤ 100) {a b : T} {m : M} (h : Two a b m) : Two (scT1 c a) b m ∧ pairL (scT1 c a) b = scL c (pairL a b) := by
  have h2 : Two (scT1 c a) b m := ⟨h.ok1, h.ok2, h.ok3, h.gx, h.gy, h.gd, h.ge, ⟨by show 0 ≤ c * a.c % 101; omega, by show c * a.c % 101 ≤ 100; omega⟩, h.c2⟩
  refine ⟨h2, eq_of_Rp (pairL_facts h2).1 (scL_falls c1 c2 (pairL_facts h).1) ?_⟩
  rw [Rp_pair _ h2, Rp_sc, Rp_pair _ h, Lq.sc_sc]
  congr 1
  show zz (c * a.c % 101) * zz b.c = _
  rw [zz_mod, zz_mul]; grind
theorem rowM_sc {c : Int} (c1 : 1 ≤ c) (c2 : c ≤ 100) {K : List T} {a : T} {f : Nat → T} {lb : Nat} (hK : Falls K) (ha : a.m.ok = true ∧ 0 ≤ a.c ∧ a.c ≤ 100) (hg : Good f lb) : ∀ k, k ≤ lb → rowM (scL c K) (scT1 c a) f k = (rowM K a f k).map (scL c)
  | 0, _ => rfl
  | k + 1, hk => by
    rw [rowM, rowM, rowM_sc c1 c2 hK ha hg k (by omega)]
    cases hr : rowM K a f k with
    | none => rfl
    | some K1 =>
      show stepM (scL c K1) (scT1 c a) (f k) = (stepM K1 a (f k)).map (scL c)
      have hf1 := rowM_falls2 hK ha hg k K1 (by omega) hr
      have h2 := hg k (by omega)
      unfold stepM
      show (if (a.m.sum (f k).m).ok = true ∧ (addL (scL c K1) (pairL (scT1 c a) (f k))).length ≤ 400 then some (addL (scL c K1) (pairL (scT1 c a) (f k))) else none) = _
      by_cases hok : (a.m.sum (f k).m).ok = true
      · have tw : Two a (f k) (a.m.sum (f k).m) := ⟨ha.1, h2.1, hok, rfl, rfl, rfl, rfl, ha.2, h2.2⟩
        rw [(pair_sc c1 c2 tw).2, addL_sc c1 c2 hf1 (pairL_facts tw).1, scL_len]
        by_cases hl : (addL K1 (pairL a (f k))).length ≤ 400
        · rw [if_pos ⟨hok, hl⟩, if_pos ⟨hok, hl⟩]; rfl
        · rw [if_neg (fun h => hl h.2), if_neg (fun h => hl h.2)]; rfl
      · rw [if_neg (fun h => hok h.1), if_neg (fun h => hok h.1)]; rfl
theorem mulM_sc {c : Int} (c1 : 1 ≤ c) (c2 : c ≤ 100) {f f' f2 : Nat → T} {la lb : Nat} (hf : Good f la) (hg : Good f' lb) (he : ∀ i, i < la → f2 i = scT1 c (f i)) : ∀ i, i ≤ la → mulM f2 f' lb i = (mulM f f' lb i).map (scL c)
  | 0, _ => by show some [] = some (scL c []); rw [show scL c [] = [] from by rw [scL_map]; rfl]
  | i + 1, hi => by
    rw [mulM, mulM, mulM_sc c1 c2 hf hg he i (by omega)]
    cases hr : mulM f f' lb i with
    | none => rfl
    | some K1 =>
      show rowM (scL c K1) (f2 i) f' lb = (rowM K1 (f i) f' lb).map (scL c)
      rw [he i (by omega)]
      exact rowM_sc c1 c2 (mulM_falls2 hf hg i K1 (by omega) hr) (hf i (by omega)) hg lb (Nat.le_refl _)
theorem wm_sc {c : Int} (c1 : 1 ≤ c) (c2 : c ≤ 100) {A B P : List T} (h : wmV A B = (P, true)) : wmV (scL c A) B = (scL c P, true) := by
  obtain ⟨oA, oB⟩ := wm_args h
  have oS : okL (scL c A) = true := okL_of (by rw [scL_len]; exact (okL_falls oA).1) (scL_falls c1 c2 (okL_falls oA).2)
  unfold wmV wylMul at h ⊢
  rw [if_pos ⟨oA, oB⟩] at h
  rw [if_pos ⟨oS, oB⟩]
  obtain ⟨l1, g1⟩ := good_ok oA
  obtain ⟨l2, g2⟩ := good_ok oB
  rw [scL_len, mulM_sc c1 c2 g1 g2 (fun i hi => by rw [scL, lf_scT _ _ _ _ hi]; rfl) A.length (Nat.le_refl _)]
  cases hm : mulM (lf A) (lf B) B.length A.length with
  | none => rw [hm] at h; simp [mulO] at h
  | some K =>
    rw [hm] at h
    have : K = P := by simpa [mulO] using h
    rw [this]; rfl
/-! how far two are apart -/
theorem sum_f (A B : Lq) (u : Vq) (n k : Nat) : (Lq.sum A B).f u n k = A.f u n k + B.f u n k := rfl
theorem sc_f (c : Fq) (A : Lq) (u : Vq) (n k : Nat) : (Lq.sc c A).f u n k = c * A.f u n k := rfl
theorem nil_f (u : Vq) (n k : Nat) : Lq.nil.f u n k = 0 := rfl
end Go.Proofs.Ytfjmpempemingaa
namespace Go.Proofs.Ytfjmpempemingaa
open Go.RowKit Go.Deep Go.Joins
set_option linter.unusedVariables false

theorem out_low {lo lo' : Nat} {w : World} {a : Option Addr} {cap : Nat} {L : List T} (h : Out lo w a cap L) (hl : lo' ≤ lo) : Out lo' w a cap L := ⟨h.1, h.2.1, h.2.2.imp id (fun ⟨g, off, he, hlo⟩ => ⟨g, off, he, Nat.le_trans hl hlo⟩)⟩
theorem one_ok {t : T} (h : t.m.ok = true ∧ 1 ≤ t.c ∧ t.c ≤ 100) : okL [t] = true :=
  okL_of (by simp) ⟨List.pairwise_singleton _ _, fun s hs => by simp at hs; subst hs; exact h⟩
/-- one term times an operator, less another one times another one. -/
def diffV (u v : T) (f : Nat → T) (n : Nat) (g : Nat → T) (m : Nat) : List T × Bool :=
  if (wylMul (lf [u]) 1 f n).2 = true ∧ (wylMul (lf [v]) 1 g m).2 = true then polSub (lf (wylMul (lf [u]) 1 f n).1) (wylMul (lf [u]) 1 f n).1.length (lf (wylMul (lf [v]) 1 g m).1) (wylMul (lf [v]) 1 g m).1.length else ([], false)
theorem diffV_len (u v : T) (f : Nat → T) (n : Nat) (g : Nat → T) (m : Nat) : (diffV u v f n g m).1.length ≤ 400 := by
  unfold diffV
  split
  · exact polSub_len _ _ _ _
  · simp
def sprPoly (o : Int) (f : Nat → T) (n : Nat) (g : Nat → T) (m : Nat) : List T × Bool :=
  if sprOk o n f m g = true then diffV (sprU o n f m g) (sprV o n f m g) f n g m else ([], false)
theorem sprPoly_len (o : Int) (f : Nat → T) (n : Nat) (g : Nat → T) (m : Nat) : (sprPoly o f n g m).1.length ≤ 400 := by
  unfold sprPoly
  split
  · exact diffV_len _ _ _ _ _ _
  · simp
/-- an operator less a term times another one, as the model takes it. -/
def lessV (L : List T) (t : T) (g : Nat → T) (m : Nat) : List T × Bool :=
  match mulM (lf [t]) g m 1 with
  | none => ([], false)
  | some Y => if (subL L Y).length ≤ 400 then (subL L Y, true) else ([], false)
theorem lessV_len (L : List T) (t : T) (g : Nat → T) (m : Nat) : (lessV L t g m).1.length ≤ 400 := by
  unfold lessV
  split
  · simp
  · split
    · assumption
    · simp
theorem mulM_neg {t : T} (ht : t.m.ok = true ∧ 1 ≤ t.c ∧ t.c ≤ 100) {g : Nat → T} {m : Nat} (hg : Good g m) : mulM (lf [⟨101 - t.c, t.m⟩]) g m 1 = (mulM (lf [t]) g m 1).map (scL 100) := by
  refine mulM_sc (by omega) (by omega) (f := lf [t]) (la := 1) (fun i hi => ?_) hg (fun i hi => ?_) 1 (Nat.le_refl _)
  · obtain rfl : i = 0 := by omega
    exact ⟨ht.1, by show 0 ≤ t.c; omega, ht.2.2⟩
  · obtain rfl : i = 0 := by omega
    show (⟨101 - t.c, t.m⟩ : T) = ⟨100 * t.c % 101, t.m⟩
    congr 1
    omega
theorem less_diff {u v : T} {f : Nat → T} {n : Nat} {g : Nat → T} {m : Nat} (hu : u.m.ok = true ∧ 1 ≤ u.c ∧ u.c ≤ 100) (hv : v.m.ok = true ∧ 1 ≤ v.c ∧ v.c ≤ 100) (hf : polOk n f = true) (hg : polOk m g = true) :
    diffV u v f n g m = match mulM (lf [u]) f n 1 with | none => ([], false) | some X => lessV X v g m := by
  have o1 : polOk 1 (lf [u]) = true := one_ok hu
  have o2 : polOk 1 (lf [v]) = true := one_ok hv
  have e1 : wylMul (lf [u]) 1 f n = mulO (mulM (lf [u]) f n 1) := if_pos ⟨o1, hf⟩
  have e2 : wylMul (lf [v]) 1 g m = mulO (mulM (lf [v]) g m 1) := if_pos ⟨o2, hg⟩
  unfold diffV
  rw [e1, e2]
  cases hX : mulM (lf [u]) f n 1 with
  | none => exact if_neg (by simp [mulO])
  | some X =>
    unfold lessV
    cases hY : mulM (lf [v]) g m 1 with
    | none => exact if_neg (by simp [mulO])
    | some Y =>
      have kX : okL X = true := okL_of (mulM_len _ X hX) (mulM_falls2 (good_ok o1).2 (good_ok hf).2 _ X (Nat.le_refl _) hX)
      have kY : okL Y = true := okL_of (mulM_len _ Y hY) (mulM_falls2 (good_ok o2).2 (good_ok hg).2 _ Y (Nat.le_refl _) hY)
      rw [if_pos (by simp [mulO])]
      show subV X Y = if (subL X Y).length ≤ 400 then (subL X Y, true) else ([], false)
      by_cases hl : (subL X Y).length ≤ 400
      · rw [if_pos hl, subV_ok kX kY hl]
      · rw [if_neg hl]
        rcases subV_case X Y with h | ⟨_, _, h, _⟩
        · exact h
        · exact absurd h hl
set_option maxRecDepth 100000 in
set_option maxHeartbeats 4000000 in
theorem l7LessS (w : World) (pa : Option Addr) (pc : Nat) (L : List T) (t : T) (b : Option Addr) (m cb : Nat) (g : Nat → T) (hp : RL w pa pc L) (hl : L.length ≤ 400) (hL : Falls L) (ht : t.m.ok = true ∧ 1 ≤ t.c ∧ t.c ≤ 100) (hb : Rd w b m cb g) (hg : polOk m g = true) :
    Calls Try.prog 70 #[.slice pa L.length pc, .agg #[.int .i64 t.c, .int .i64 t.m.x, .int .i64 t.m.y, .int .i64 t.m.d, .int .i64 t.m.e], .slice b m cb] w fun r w' => ∃ v, r = .returned (.tuple #[v, .bool (lessV L t g m).2]) ∧ Below w.heap.size w w' ∧ w'.ownsRow w.heap.size 34 5 v (lessV L t g m).1.length (cellsL (lessV L t g m).1) := by
  obtain ⟨l2, gg⟩ := good_ok hg
  have HP := Hid.mk' hp
  have HG := Hid.mk' hb
  have HL := Hid.mk' hL
  have hmn := mulM_neg ht gg
  obtain ⟨t0, t1, t2⟩ := ht
  have gs : Good (lf [(⟨101 - t.c, t.m⟩ : T)]) 1 := fun i hi => by
    obtain rfl : i = 0 := by omega
    exact ⟨t0, by show 0 ≤ 101 - t.c; omega, by show 101 - t.c ≤ 100; omega⟩
  have gt : Good (lf [t]) 1 := fun i hi => by
    obtain rfl : i = 0 := by omega
    exact ⟨t0, by show 0 ≤ t.c; omega, t2⟩
  have hcall := fun (W : World) (h : RL W (some ⟨w.heap.size + 1, 0, none⟩) 1 [(⟨101 - t.c, t.m⟩ : T)]) (h' : Rd W b m cb g) => mulS4 W (some ⟨w.heap.size + 1, 0, none⟩) b 1 1 m cb (lf [(⟨101 - t.c, t.m⟩ : T)]) g h h' (by omega) l2 gs gg
  rw [hmn] at hcall
  have HGT := Hid.mk' gt
  have HGG := Hid.mk' gg
  clear hp hb hL gs gt gg hmn
  unfold lessV
  have hrl := one_RL (w.alloc (.cells #[.int .i64 t.c, .int .i64 t.m.x, .int .i64 t.m.y, .int .i64 t.m.d, .int .i64 t.m.e] 34)) (⟨101 - t.c, t.m⟩ : T)
  rw [World.size_alloc] at hrl
  have HRL := Hid.mk' hrl
  have HBL := Hid.mk' (bel_two w (.cells #[.int .i64 t.c, .int .i64 t.m.x, .int .i64 t.m.y, .int .i64 t.m.d, .int .i64 t.m.e] 34) (.cells #[.int .i64 (101 - t.c), .int .i64 t.m.x, .int .i64 t.m.y, .int .i64 t.m.d, .int .i64 t.m.e] 34))
  clear hrl
  cases hY : mulM (lf [t]) g m 1 with
  | none =>
    rw [hY] at hcall
    simp only [Option.map_none, mulO] at hcall
    go_enter Try.func70, Try.ntmps70
    go_wp2_with fail
    refine (hcall _ HRL.out (HG.out.below HBL.out)).mono ?_
    rintro r w1 ⟨v1, rfl, hb1, ho1⟩
    have HB1 := Hid.mk' (bel_next HBL.out hb1)
    clear hb1 ho1 hcall
    go_wp2
    refine bodyPost_ret (results_tmp2 rfl _ _ _) rfl ?_
    exact ⟨_, rfl, HB1.out.alloc HB1.out.size _, owns_none w1 w.heap.size HB1.out.size⟩
  | some Y =>
    have fY := mulM_falls2 HGT.out HGG.out 1 Y (Nat.le_refl _) hY
    have lY := mulM_len 1 Y hY
    have fS := scL_falls (c := 100) (by omega) (by omega) fY
    have lS := scL_len 100 Y
    have hsl := subL_len L Y
    rw [hY] at hcall
    simp only [Option.map_some, mulO] at hcall
    obtain ⟨Z, hZ⟩ : ∃ Z, scL 100 Y = Z := ⟨_, rfl⟩
    rw [hZ] at hcall fS lS
    have hadd : subL L Y = addL L Z := by rw [← hZ]; rfl
    dsimp only
    rw [hadd] at hsl ⊢
    have lZ : Z.length ≤ 400 := by omega
    have c1 : Hid (∀ i, i < L.length → 0 ≤ (lf L i).c ∧ (lf L i).c ≤ 100) := fun i hi => by have := (fl_lf HL.out).2 i hi; omega
    have c2 : Hid (∀ i, i < Z.length → 0 ≤ (lf Z i).c ∧ (lf Z i).c ≤ 100) := fun i hi => by have := (fl_lf fS).2 i hi; omega
    have HAD : Hid (addT (lf L) L.length (lf Z) Z.length 0 0 = addL L Z) := rfl
    obtain ⟨R, hR⟩ : ∃ R, addL L Z = R := ⟨_, rfl⟩
    rw [hR] at hsl HAD ⊢
    have hRl : R.length ≤ 1000 := by omega
    clear hZ hadd hR fS fY lS hsl
    by_cases hle : R.length ≤ 400
    · have hg4 : ¬ (400 : Int) < (R.length : Int) := by omega
      rw [if_pos hle]
      go_enter Try.func70, Try.ntmps70
      go_wp2_with fail
      refine (hcall _ HRL.out (HG.out.below HBL.out)).mono ?_
      rintro r w1 ⟨v1, rfl, hb1, ho1⟩
      obtain ⟨a1, k1, rfl, hout⟩ := out_of_owns ho1 (by omega)
      have HB1 := Hid.mk' (bel_next HBL.out hb1)
      have HZ1 := Hid.mk' hout.1
      clear hb1 ho1 hout hcall
      go_wp2_with fail
      refine (l3AddS _ _ _ _ _ _ _ (lf L) (lf Z) (HP.out.below HB1.out) HZ1.out (by omega) c1.out c2.out).mono ?_
      rw [HAD.out]
      rintro r w2 ⟨v2, rfl, hb2, ho2⟩
      have HB2 := Hid.mk' (bel_next HB1.out hb2)
      have HO2 := Hid.mk' (ownsRow_low ho2 HB1.out.size)
      obtain ⟨a2, k2, rfl, hout⟩ := out_of_owns ho2 (by omega)
      clear hb2 ho2 hout
      go_wp2
      refine bodyPost_ret (results_tmp2 rfl _ _ _) rfl ?_
      exact ⟨_, rfl, HB2.out, HO2.out⟩
    · have hg4 : (400 : Int) < (R.length : Int) := by omega
      rw [if_neg hle]
      go_enter Try.func70, Try.ntmps70
      go_wp2_with fail
      refine (hcall _ HRL.out (HG.out.below HBL.out)).mono ?_
      rintro r w1 ⟨v1, rfl, hb1, ho1⟩
      obtain ⟨a1, k1, rfl, hout⟩ := out_of_owns ho1 (by omega)
      have HB1 := Hid.mk' (bel_next HBL.out hb1)
      have HZ1 := Hid.mk' hout.1
      clear hb1 ho1 hout hcall
      go_wp2_with fail
      refine (l3AddS _ _ _ _ _ _ _ (lf L) (lf Z) (HP.out.below HB1.out) HZ1.out (by omega) c1.out c2.out).mono ?_
      rw [HAD.out]
      rintro r w2 ⟨v2, rfl, hb2, ho2⟩
      have HB2 := Hid.mk' (bel_next HB1.out hb2)
      have HO2 := Hid.mk' (ownsRow_low ho2 HB1.out.size)
      obtain ⟨a2, k2, rfl, hout⟩ := out_of_owns ho2 (by omega)
      clear hb2 ho2 hout
      go_wp2
      refine bodyPost_ret (results_tmp2 rfl _ _ _) rfl ?_
      exact ⟨_, rfl, HB2.out.alloc HB2.out.size _, owns_none w2 w.heap.size HB2.out.size⟩
end Go.Proofs.Ytfjmpempemingaa
namespace Go.Proofs.Ytfjmpempemingaa
open Go.RowKit
set_option linter.unusedVariables false

theorem rowM_lin (φ : M → Fq) {K : List T} {a : T} {f : Nat → T} {lb : Nat} (hK : Falls K) (ha : a.m.ok = true ∧ 0 ≤ a.c ∧ a.c ≤ 100) (hg : Good f lb) : ∀ k K', k ≤ lb → rowM K a f k = some K' → lin φ K' = lin φ K + su (List.range k) (fun j => lin φ (pairL a (f j)))
  | 0, K', _, h => by cases h; show _ = lin φ K + 0; grind
  | k + 1, K', hk, h => by
    rw [rowM] at h
    cases hr : rowM K a f k with
    | none => rw [hr] at h; cases h
    | some K1 =>
      rw [hr] at h
      change stepM K1 a (f k) = some K' at h
      have h1 := rowM_lin φ hK ha hg k K1 (by omega) hr
      have hf1 := rowM_falls2 hK ha hg k K1 (by omega) hr
      unfold stepM at h
      split at h
      · rename_i hok
        cases h
        have h2 := hg k (by omega)
        have tw : Two a (f k) (a.m.sum (f k).m) := ⟨ha.1, h2.1, hok.1, rfl, rfl, rfl, rfl, ha.2, h2.2⟩
        rw [lin_add φ hf1 (pairL_facts tw).1, h1, List.range_succ, su_append]
        show _ = _ + (_ + (_ + 0))
        grind
      · cases h
theorem rowM_two {K : List T} {a : T} {f : Nat → T} : ∀ k K', rowM K a f k = some K' → ∀ j, j < k → (a.m.sum (f j).m).ok = true
  | 0, _, _, j, hj => by omega
  | k + 1, K', h, j, hj => by
    rw [rowM] at h
    cases hr : rowM K a f k with
    | none => rw [hr] at h; cases h
    | some K1 =>
      rw [hr] at h
      change stepM K1 a (f k) = some K' at h
      unfold stepM at h
      split at h
      · rename_i hok
        by_cases e : j = k
        · rw [e]; exact hok.1
        · exact rowM_two k K1 hr j (by omega)
      · cases h
theorem mulM_lin (φ : M → Fq) {f f' : Nat → T} {la lb : Nat} (hf : Good f la) (hg : Good f' lb) : ∀ i K, i ≤ la → mulM f f' lb i = some K → lin φ K = su (List.range i) (fun k => su (List.range lb) (fun j => lin φ (pairL (f k) (f' j)))) ∧ ∀ k, k < i → ∀ j, j < lb → ((f k).m.sum (f' j).m).ok = true
  | 0, K, _, h => by cases h; exact ⟨rfl, fun k hk => by omega⟩
  | i + 1, K, hi, h => by
    rw [mulM] at h
    cases hr : mulM f f' lb i with
    | none => rw [hr] at h; cases h
    | some K1 =>
      rw [hr] at h
      have h1 := mulM_lin φ hf hg i K1 (by omega) hr
      refine ⟨?_, fun k hk j hj => ?_⟩
      · rw [rowM_lin φ (mulM_falls2 hf hg i K1 (by omega) hr) (hf i (by omega)) hg lb K (Nat.le_refl _) h, h1.1, List.range_succ, su_append]
        show _ = _ + (_ + 0)
        grind
      · by_cases e : k = i
        · rw [e]; exact rowM_two lb K h j hj
        · exact h1.2 k (by omega) j hj
theorem su_lf2 (L : List T) (f : T → Fq) : su L f = su (List.range L.length) (fun i => f (lf L i)) := by
  have e : L = (List.range L.length).map (lf L) := by
    refine List.ext_getElem (by simp) (fun i h1 h2 => ?_)
    rw [List.getElem_map, List.getElem_range, lf_eq h1]
  have := su_map (lf L) f (List.range L.length)
  rw [← e] at this
  exact this
/-- what is held against a product is held against the products of its terms. -/
theorem wm_lin {A B P : List T} (h : wmV A B = (P, true)) : (∀ φ, lin φ P = su A (fun a => su B (fun b => lin φ (pairL a b)))) ∧ ∀ a ∈ A, ∀ b ∈ B, (a.m.sum b.m).ok = true := by
  unfold wmV wylMul at h
  split at h
  · rename_i hok
    obtain ⟨l1, g1⟩ := good_ok hok.1
    obtain ⟨l2, g2⟩ := good_ok hok.2
    cases hm : mulM (lf A) (lf B) B.length A.length with
    | none => rw [hm] at h; simp [mulO] at h
    | some K =>
      rw [hm] at h
      have e : K = P := by simpa [mulO] using h
      refine ⟨fun φ => ?_, fun a ha b hb => ?_⟩
      · rw [← e, (mulM_lin φ g1 g2 _ K (Nat.le_refl _) hm).1, su_lf2 A]
        refine su_congr (fun i _ => ?_)
        rw [su_lf2 B]
      · obtain ⟨i, hi, rfl⟩ := List.mem_iff_getElem.1 ha
        obtain ⟨j, hj, rfl⟩ := List.mem_iff_getElem.1 hb
        have := (mulM_lin (fun _ => 0) g1 g2 _ K (Nat.le_refl _) hm).2 i hi j hj
        rwa [lf_eq hi, lf_eq hj] at this
  · simp at h
/-- what is counted: with i of the one and k of the other taken away it is at least so much less. -/
def Wt (W : M → Int) : Prop := ∀ (a b : M) (i k : Nat), W ⟨a.x + b.x - i, a.y + b.y - k, a.d + b.d - i, a.e + b.e - k⟩ ≤ W a + W b - i - k ∧ W (a.sum b) = W a + W b
theorem pair_lin (φ : M → Fq) {a b : T} {m : M} (h : Two a b m) : lin φ (pairL a b) = su (List.range (limX a b + 1)) (fun i => su (List.range (limY a b + 1)) (fun k => zz (termN a b i k).c * φ (termN a b i k).m)) := by
  show lin φ (putAll (emitN a b (limX a b + 1)) []) = _
  rw [lin_putAll _ _ (emit_tok h) falls_nil, lin_nil]
  unfold lin emitN rowN
  rw [su_flat]
  have z : ∀ x : Fq, 0 + x = x := by intro x; grind
  rw [z]
  refine su_congr (fun i _ => ?_)
  rw [su_map]
theorem su_first (f : Nat → Fq) : ∀ n, (∀ i, 0 < i → f i = 0) → su (List.range (n + 1)) f = f 0
  | 0, _ => by show f 0 + 0 = f 0; grind
  | n + 1, h => by
    rw [List.range_succ, su_append, su_first f n h]
    show f 0 + (f (n + 1) + 0) = f 0
    rw [h (n + 1) (by omega)]; grind
theorem wy_zero {d x : Int} (d0 : 0 ≤ d) (d1 : d ≤ 15) (x0 : 0 ≤ x) (x1 : x ≤ 15) : zz (wy d x 0) = 1 := by
  have h := zz_wy (d := d) (x := x) (i := 0) d0 d1 x0 x1 (by omega) (by omega)
  have e : ((0 : Nat) : Int) = 0 := rfl
  rw [e] at h
  rw [h]
  unfold wN
  rw [chN_zero]
  rfl
/-- of two terms only the whole product counts as much as both. -/
theorem pair_top {W : M → Int} (hW : Wt W) (φ : M → Fq) {a b : T} {m : M} (h : Two a b m) {n : Int} (hn : W a.m + W b.m ≤ n) (hφ : ∀ m, W m < n → φ m = 0) : lin φ (pairL a b) = zz a.c * zz b.c * φ (a.m.sum b.m) := by
  obtain ⟨ax0, ax1, ay0, ay1, ad0, ad1, ae0, ae1⟩ := M.ok_iff.1 h.ok1
  obtain ⟨bx0, bx1, by0, by1, bd0, bd1, be0, be1⟩ := M.ok_iff.1 h.ok2
  have zr : ∀ x : Fq, x * 0 = 0 := by intro x; grind
  have low : ∀ i k : Nat, 0 < i + k → φ (termN a b i k).m = 0 := fun i k hik => by
    have := (hW a.m b.m i k).1
    refine hφ _ ?_
    show W ⟨a.m.x + b.m.x - i, a.m.y + b.m.y - k, a.m.d + b.m.d - i, a.m.e + b.m.e - k⟩ < n
    omega
  rw [pair_lin φ h, su_first _ _ (fun i hi => su_zero _ _ (fun k _ => by rw [low i k (by omega), zr])), su_first _ _ (fun k hk => by rw [low 0 k (by omega), zr])]
  have e : (termN a b 0 0).m = a.m.sum b.m := by
    show (⟨a.m.x + b.m.x - ((0 : Nat) : Int), a.m.y + b.m.y - ((0 : Nat) : Int), a.m.d + b.m.d - ((0 : Nat) : Int), a.m.e + b.m.e - ((0 : Nat) : Int)⟩ : M) = ⟨a.m.x + b.m.x, a.m.y + b.m.y, a.m.d + b.m.d, a.m.e + b.m.e⟩
    simp
  rw [e]
  congr 1
  show zz (a.c * b.c % 101 * wy a.m.d b.m.x ((0 : Nat) : Int) % 101 * wy a.m.e b.m.y ((0 : Nat) : Int) % 101) = _
  have e0 : ((0 : Nat) : Int) = 0 := rfl
  rw [e0, zz_mod, zz_mul, zz_mod, zz_mul, zz_mod, zz_mul, wy_zero ad0 ad1 bx0 bx1, wy_zero ae0 ae1 by0 by1]
  grind
theorem two_of {A B P : List T} (h : wmV A B = (P, true)) {a b : T} (ha : a ∈ A) (hb : b ∈ B) : Two a b (a.m.sum b.m) := by
  obtain ⟨oA, oB⟩ := wm_args h
  have r1 := (okL_falls oA).2.2 a ha
  have r2 := (okL_falls oB).2.2 b hb
  exact ⟨r1.1, r2.1, (wm_lin h).2 a ha b hb, rfl, rfl, rfl, rfl, ⟨by omega, r1.2.2⟩, by omega, r2.2.2⟩
/-- whatever looks at the top alone sees the product as if all commuted. -/
theorem wm_top {W : M → Int} (hW : Wt W) {A B P : List T} (h : wmV A B = (P, true)) {n : Int} (hn : ∀ a ∈ A, ∀ b ∈ B, W a.m + W b.m ≤ n) (φ : M → Fq) (hφ : ∀ m, W m < n → φ m = 0) : lin φ P = su A (fun a => su B (fun b => zz a.c * zz b.c * φ (a.m.sum b.m))) := by
  rw [(wm_lin h).1]
  refine su_congr (fun a ha => su_congr (fun b hb => ?_))
  exact pair_top hW φ (two_of h ha hb) (hn a ha b hb) hφ
def dl (m : M) (x : M) : Fq := if meqB m x = true then 1 else 0
theorem lin_dl {P : List T} (hP : Falls P) {m : M} (hm : m.ok = true) : lin (dl m) P = zz (coef P m) := by
  rw [lin_box _ hP]
  have e : su box (fun x => zz (coef P x) * dl m x) = su box (fun x => if meqB m x = true then zz (coef P m) else 0) := by
    refine su_congr (fun x _ => ?_)
    unfold dl
    by_cases h : meqB m x = true
    · rw [if_pos h, if_pos h, meqB_eq.1 h]; grind
    · rw [if_neg h, if_neg h]; grind
  rw [e, su_single m _ box box_nodup (box_mem hm)]
/-- the greatest term of a product is that of both. -/
theorem lead_prod {W : M → Int} (hW : Wt W) (hinj : ∀ a b : M, a.ok = true → b.ok = true → W a = W b → a = b) {A B P : List T} (h : wmV A B = (P, true)) {a0 b0 : T} (ha0 : a0 ∈ A) (hb0 : b0 ∈ B) (hA : ∀ a ∈ A, W a.m ≤ W a0.m) (hB : ∀ b ∈ B, W b.m ≤ W b0.m) : (⟨a0.c * b0.c % 101, a0.m.sum b0.m⟩ : T) ∈ P ∧ ∀ t ∈ P, W t.m ≤ W (a0.m.sum b0.m) := by
  obtain ⟨oA, oB⟩ := wm_args h
  have fA := (okL_falls oA).2
  have fB := (okL_falls oB).2
  have fP := wm_falls h
  have ra := fA.2 a0 ha0
  have rb := fB.2 b0 hb0
  have hs := (wm_lin h).2 a0 ha0 b0 hb0
  have hsum := (hW a0.m b0.m 0 0).2
  have key : ∀ m : M, m.ok = true → W (a0.m.sum b0.m) ≤ W m → zz (coef P m) = zz a0.c * zz b0.c * dl m (a0.m.sum b0.m) := fun m hm hle => by
    rw [← lin_dl fP hm, wm_top hW h (n := W a0.m + W b0.m) (fun a ha b hb => by have := hA a ha; have := hB b hb; omega) (dl m) (fun x hx => by
      unfold dl
      rw [if_neg]
      intro e
      rw [meqB_eq.1 e] at hle
      omega)]
    have zr : ∀ x : Fq, x * 0 = 0 := by intro x; grind
    have off : ∀ a ∈ A, ∀ b ∈ B, (a.m ≠ a0.m ∨ b.m ≠ b0.m) → dl m (a.m.sum b.m) = 0 := fun a ha b hb hne => by
      unfold dl
      rw [if_neg]
      intro e
      rw [meqB_eq.1 e, (hW a.m b.m 0 0).2] at hle
      have h1 := hA a ha
      have h2 := hB b hb
      rcases hne with hne | hne
      · exact hne (hinj _ _ (fA.2 a ha).1 ra.1 (by omega))
      · exact hne (hinj _ _ (fB.2 b hb).1 rb.1 (by omega))
    rw [su_falls fA ha0 (fun a ha hne => su_zero _ _ (fun b hb => by rw [off a ha b hb (.inl hne), zr])), su_falls fB hb0 (fun b hb hne => by rw [off a0 ha0 b hb (.inr hne), zr])]
  have c0 : coef P (a0.m.sum b0.m) = a0.c * b0.c % 101 := by
    have h1 := key _ hs (Int.le_refl _)
    have e1 : dl (a0.m.sum b0.m) (a0.m.sum b0.m) = 1 := by unfold dl; rw [if_pos (meqB_eq.2 rfl)]
    rw [e1] at h1
    have h2 : zz (coef P (a0.m.sum b0.m)) = zz (a0.c * b0.c % 101) := by rw [h1, zz_mod, zz_mul]; grind
    exact zz_inj (coef_range fP _) ⟨by omega, by omega⟩ h2
  have cne : a0.c * b0.c % 101 ≠ 0 := by
    have := fMul_ne (a := a0.c) (b := b0.c) (by omega) (by omega) (by omega) (by omega)
    rwa [fMul_in (by omega) ra.2.2 (by omega) rb.2.2] at this
  have mem : ∀ X : List T, ∀ m, coef X m ≠ 0 → ∃ s ∈ X, s.m = m ∧ s.c = coef X m := fun X m => by
    induction X with
    | nil => intro h; exact absurd rfl h
    | cons s r ih =>
      intro h
      rw [coef] at h ⊢
      by_cases e : meqB s.m m = true
      · exact ⟨s, List.mem_cons_self .., meqB_eq.1 e, by rw [if_pos e]⟩
      · rw [if_neg e] at h ⊢
        obtain ⟨x, hx, he⟩ := ih h
        exact ⟨x, List.mem_cons_of_mem _ hx, he⟩
  refine ⟨?_, fun t ht => ?_⟩
  · obtain ⟨s, hs1, hs2, hs3⟩ := mem P (a0.m.sum b0.m) (by rw [c0]; exact cne)
    have : s = ⟨a0.c * b0.c % 101, a0.m.sum b0.m⟩ := by
      cases s
      simp only at hs2 hs3
      rw [hs2, hs3, c0]
    rw [← this]; exact hs1
  · have rt := fP.2 t ht
    by_cases hle : W t.m ≤ W (a0.m.sum b0.m)
    · exact hle
    · exfalso
      have h1 := key t.m rt.1 (by omega)
      have e1 : dl t.m (a0.m.sum b0.m) = 0 := by
        unfold dl
        rw [if_neg]
        intro e
        rw [meqB_eq.1 e] at hle
        exact hle (Int.le_refl _)
      rw [e1] at h1
      have ht2 : coef P t.m = t.c := by
        have hp : ∀ X : List T, Falls X → t ∈ X → coef X t.m = t.c := fun X hX hx => by
          induction X with
          | nil => cases hx
          | cons s r ih =>
            rw [coef]
            rcases List.mem_cons.1 hx with rfl | hx'
            · rw [if_pos (meqB_eq.2 rfl)]
            · have h1 := (List.pairwise_cons.1 hX.1).1 t hx'
              rw [if_neg (fun e => by rw [meqB_eq.1 e] at h1; omega)]
              exact ih hX.tail hx'
        exact hp P fP ht
      rw [ht2] at h1
      exact zz_ne rt.2.1 rt.2.2 (by rw [h1]; grind)
end Go.Proofs.Ytfjmpempemingaa
