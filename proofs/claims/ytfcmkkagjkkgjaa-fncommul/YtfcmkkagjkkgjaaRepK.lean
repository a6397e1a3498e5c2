/-
  Products as if all commuted: no order, no brackets; with a form on the left the product itself.
-/
import Derived.Test.YtfcmkkagjkkgjaaRepT
import Derived.Test.YtfcmkkagjkkgjaaCom
import Derived.Test.YtfcmkkagjkkgjaaComS
namespace Go.Proofs.Ytfcmkkagjkkgjaa
open Go.RowKit
set_option linter.unusedVariables false

def cmV (L K : List T) : List T × Bool := comMul (lf L) L.length (lf K) K.length
theorem cmV_if (L K : List T) : cmV L K = ([], false) ∨ ∃ X, cmV L K = (X, true) := by
  unfold cmV comMul
  split
  · cases eachM (fun K' t => rowC K' t (lf K) K.length) (lf L) L.length with
    | none => exact .inl rfl
    | some X => exact .inr ⟨X, rfl⟩
  · exact .inl rfl
theorem rowC_lin (φ : M → Fq) {K : List T} {a : T} {f : Nat → T} {lb : Nat} (hK : Falls K) (ha : a.m.ok = true ∧ 1 ≤ a.c ∧ a.c ≤ 100) (hg : ∀ i, i < lb → (f i).m.ok = true ∧ 1 ≤ (f i).c ∧ (f i).c ≤ 100) : ∀ k K', k ≤ lb → rowC K a f k = some K' → Falls K' ∧ (lin φ K' = lin φ K + su (List.range k) (fun j => zz a.c * zz (f j).c * φ (a.m.sum (f j).m))) ∧ ∀ j, j < k → (a.m.sum (f j).m).ok = true
  | 0, K', _, h => by
    cases h
    exact ⟨hK, by show _ = lin φ K + 0; grind, fun j hj => by omega⟩
  | k + 1, K', hk, h => by
    rw [rowC] at h
    cases hr : rowC K a f k with
    | none => rw [hr] at h; cases h
    | some K1 =>
      rw [hr] at h
      change comStep K1 a (f k) = some K' at h
      have h1 := rowC_lin φ hK ha hg k K1 (by omega) hr
      unfold comStep at h
      split at h
      · rename_i hok
        cases h
        have h2 := hg k (by omega)
        have c0 : 0 ≤ a.c * (f k).c % 101 := by omega
        have c1 : a.c * (f k).c % 101 ≤ 100 := by omega
        refine ⟨(putT_facts h1.1 hok c0 c1).1, ?_, fun j hj => ?_⟩
        · rw [lin_put φ h1.1 hok c0 c1, h1.2.1, List.range_succ, su_append, zz_mod, zz_mul]
          show _ = _ + (_ + (_ + 0))
          grind
        · by_cases e : j = k
          · rw [e]; exact hok
          · exact h1.2.2 j (by omega)
      · cases h
theorem eachC_lin (φ : M → Fq) {f f' : Nat → T} {la lb : Nat} (hf : ∀ i, i < la → (f i).m.ok = true ∧ 1 ≤ (f i).c ∧ (f i).c ≤ 100) (hg : ∀ i, i < lb → (f' i).m.ok = true ∧ 1 ≤ (f' i).c ∧ (f' i).c ≤ 100) : ∀ i K, i ≤ la → eachM (fun K t => rowC K t f' lb) f i = some K → Falls K ∧ (lin φ K = su (List.range i) (fun k => su (List.range lb) (fun j => zz (f k).c * zz (f' j).c * φ ((f k).m.sum (f' j).m)))) ∧ ∀ k, k < i → ∀ j, j < lb → ((f k).m.sum (f' j).m).ok = true
  | 0, K, _, h => by cases h; exact ⟨falls_nil, rfl, fun k hk => by omega⟩
  | i + 1, K, hi, h => by
    rw [eachM] at h
    cases hr : eachM (fun K t => rowC K t f' lb) f i with
    | none => rw [hr] at h; cases h
    | some K1 =>
      rw [hr] at h
      change (rowC K1 (f i) f' lb).bind lim4 = some K at h
      cases hs : rowC K1 (f i) f' lb with
      | none => rw [hs] at h; cases h
      | some K2 =>
        rw [hs] at h
        change lim4 K2 = some K at h
        unfold lim4 at h
        split at h
        · cases h
          have h1 := eachC_lin φ hf hg i K1 (by omega) hr
          have h2 := rowC_lin φ h1.1 (hf i (by omega)) hg lb K (Nat.le_refl _) hs
          refine ⟨h2.1, ?_, fun k hk j hj => ?_⟩
          · rw [h2.2.1, h1.2.1, List.range_succ, su_append]
            show _ = _ + (_ + 0)
            grind
          · by_cases e : k = i
            · rw [e]; exact h2.2.2 j hj
            · exact h1.2.2 k (by omega) j hj
        · cases h
theorem cm_facts {A B X : List T} (h : cmV A B = (X, true)) : okL A = true ∧ okL B = true ∧ okL X = true ∧ (∀ φ, lin φ X = su A (fun a => su B (fun b => zz a.c * zz b.c * φ (a.m.sum b.m)))) ∧ ∀ a ∈ A, ∀ b ∈ B, (a.m.sum b.m).ok = true := by
  unfold cmV comMul at h
  split at h
  · rename_i hok
    have f1 := fl_of_ok hok.1
    have f2 := fl_of_ok hok.2
    cases hm : eachM (fun K t => rowC K t (lf B) B.length) (lf A) A.length with
    | none => rw [hm] at h; simp [mulO] at h
    | some K =>
      rw [hm] at h
      have e : K = X := by simpa [mulO] using h
      have key := fun φ => eachC_lin φ f1.2 f2.2 A.length K (Nat.le_refl _) hm
      refine ⟨hok.1, hok.2, by rw [← e]; exact okL_of (eachM_len _ K hm) (key (fun _ => 0)).1, fun φ => ?_, fun a ha b hb => ?_⟩
      · rw [← e, (key φ).2.1, su_lf2 A]
        refine su_congr (fun i _ => ?_)
        rw [su_lf2 B]
      · obtain ⟨i, hi, rfl⟩ := List.mem_iff_getElem.1 ha
        obtain ⟨j, hj, rfl⟩ := List.mem_iff_getElem.1 hb
        have := (key (fun _ => 0)).2.2 i hi j hj
        rwa [lf_eq hi, lf_eq hj] at this
  · simp at h
/-- lists that nothing tells apart are the same. -/
theorem eq_of_lin {P Q : List T} (hP : okL P = true) (hQ : okL Q = true) (h : ∀ φ, lin φ P = lin φ Q) : P = Q :=
  falls_one (okL_falls hP).2 (okL_falls hQ).2 (fun m hm => zz_inj (coef_range (okL_falls hP).2 m) (coef_range (okL_falls hQ).2 m) (by rw [← lin_dl (okL_falls hP).2 hm, ← lin_dl (okL_falls hQ).2 hm, h]))
theorem sum_comm' (a b : M) : a.sum b = b.sum a := by
  unfold M.sum
  rw [Int.add_comm a.x, Int.add_comm a.y, Int.add_comm a.d, Int.add_comm a.e]
theorem sum_assoc' (a b c : M) : (a.sum b).sum c = a.sum (b.sum c) := by
  unfold M.sum
  simp only [Int.add_assoc]
theorem rowC_some {K : List T} {a : T} {f : Nat → T} : ∀ k, (∀ j, j < k → (a.m.sum (f j).m).ok = true) → ∃ K', rowC K a f k = some K' ∧ K'.length ≤ K.length + k
  | 0, _ => ⟨K, rfl, Nat.le_refl _⟩
  | k + 1, h => by
    obtain ⟨K1, h1, h2⟩ := rowC_some (K := K) (a := a) (f := f) k (fun j hj => h j (by omega))
    refine ⟨putT (a.c * (f k).c % 101) (a.m.sum (f k).m) K1, ?_, ?_⟩
    · rw [rowC, h1]
      show comStep K1 a (f k) = _
      unfold comStep
      rw [if_pos (h k (by omega))]
    · have := putT_len (a.c * (f k).c % 101) (a.m.sum (f k).m) K1
      omega
theorem eachC_some {f f' : Nat → T} {la lb : Nat} (hl : la * lb ≤ 400) (h : ∀ k, k < la → ∀ j, j < lb → ((f k).m.sum (f' j).m).ok = true) : ∀ i, i ≤ la → ∃ K, eachM (fun K t => rowC K t f' lb) f i = some K ∧ K.length ≤ i * lb
  | 0, _ => ⟨[], rfl, by simp⟩
  | i + 1, hi => by
    obtain ⟨K1, h1, h2⟩ := eachC_some hl h i (by omega)
    obtain ⟨K2, h3, h4⟩ := rowC_some (K := K1) (a := f i) (f := f') lb (fun j hj => h i (by omega) j hj)
    have hb : (i + 1) * lb ≤ la * lb := Nat.mul_le_mul_right _ hi
    have hc : (i + 1) * lb = i * lb + lb := Nat.succ_mul i lb
    refine ⟨K2, ?_, by omega⟩
    rw [eachM, h1]
    show (rowC K1 (f i) f' lb).bind lim4 = _
    rw [h3]
    show lim4 K2 = _
    unfold lim4
    rw [if_pos (by omega)]
theorem cm_of {A B : List T} (oA : okL A = true) (oB : okL B = true) (h : ∀ a ∈ A, ∀ b ∈ B, (a.m.sum b.m).ok = true) (hl : A.length * B.length ≤ 400) : ∃ X, cmV A B = (X, true) := by
  have h1 : polOk A.length (lf A) = true := oA
  have h2 : polOk B.length (lf B) = true := oB
  obtain ⟨K, hK, _⟩ := eachC_some (f := lf A) (f' := lf B) hl (fun k hk j hj => by rw [lf_eq hk, lf_eq hj]; exact h _ (List.getElem_mem hk) _ (List.getElem_mem hj)) A.length (Nat.le_refl _)
  refine ⟨K, ?_⟩
  unfold cmV comMul
  rw [if_pos ⟨h1, h2⟩, hK]; rfl
theorem cm_comm {A B X : List T} (h : cmV A B = (X, true)) (hl : B.length * A.length ≤ 400) : cmV B A = (X, true) := by
  obtain ⟨oA, oB, oX, eX, hs⟩ := cm_facts h
  obtain ⟨Y, hY⟩ := cm_of oB oA (fun b hb a ha => by rw [sum_comm']; exact hs a ha b hb) hl
  obtain ⟨_, _, oY, eY, _⟩ := cm_facts hY
  have e : Y = X := eq_of_lin oY oX (fun φ => by
    rw [eX, eY, su_swap]
    refine su_congr (fun a _ => su_congr (fun b _ => ?_))
    rw [sum_comm' b.m]
    grind)
  rw [hY, e]
theorem cm_lin2 {A B X : List T} (h : cmV A B = (X, true)) (φ : M → Fq) : lin φ X = lin (fun m => lin (fun m' => φ (m.sum m')) B) A := by
  rw [(cm_facts h).2.2.2.1]
  refine su_congr (fun a _ => ?_)
  show _ = zz a.c * su B (fun b => zz b.c * φ (a.m.sum b.m))
  rw [← su_mul]
  exact su_congr (fun b _ => by grind)
theorem cm_assoc {A B C X BC U V : List T} (h1 : cmV A B = (X, true)) (h2 : cmV B C = (BC, true)) (h3 : cmV X C = (U, true)) (h4 : cmV A BC = (V, true)) : U = V := by
  refine eq_of_lin (cm_facts h3).2.2.1 (cm_facts h4).2.2.1 (fun φ => ?_)
  rw [cm_lin2 h3, cm_lin2 h1, cm_lin2 h4]
  refine su_congr (fun a _ => ?_)
  congr 1
  show lin (fun m' => lin (fun m'' => φ ((a.m.sum m').sum m'')) C) B = lin (fun m' => φ (a.m.sum m')) BC
  rw [cm_lin2 h2]
  refine su_congr (fun b _ => ?_)
  congr 1
  refine su_congr (fun c _ => ?_)
  show _ = zz c.c * φ (a.m.sum (b.m.sum c.m))
  rw [← sum_assoc']
/-- with a form on the left the product is the one as if all commuted. -/
theorem cm_form {A B X P : List T} (fB : freeL B = true) (h : cmV A B = (X, true)) (h2 : wmV B A = (P, true)) : X = P := by
  refine eq_of_lin (cm_facts h).2.2.1 (wm_ok h2) (fun φ => ?_)
  have fr : ∀ b ∈ B, b.m.d = 0 ∧ b.m.e = 0 := fun b hb => by
    have hf := fB
    unfold freeL polFree at hf
    rw [Bool.and_eq_true, decide_eq_true_eq] at hf
    obtain ⟨i, hi, rfl⟩ := List.mem_iff_getElem.1 hb
    have h3 := hf.2 i hi
    have h4 := M.ok_iff.1 ((okL_falls hf.1).2.2 _ hb).1
    rw [lf_eq hi] at h3
    omega
  rw [(cm_facts h).2.2.2.1, (wm_lin h2).1, su_swap]
  refine su_congr (fun b hb => su_congr (fun a ha => ?_))
  have tw := two_of h2 hb ha
  obtain ⟨ax0, ax1, ay0, ay1, ad0, ad1, ae0, ae1⟩ := M.ok_iff.1 tw.ok1
  obtain ⟨bx0, bx1, by0, by1, bd0, bd1, be0, be1⟩ := M.ok_iff.1 tw.ok2
  obtain ⟨hd, he⟩ := fr b hb
  have lx : limX b a = 0 := by unfold limX; omega
  have ly : limY b a = 0 := by unfold limY; omega
  rw [pair_lin φ tw, lx, ly]
  show _ = (zz (termN b a 0 0).c * φ (termN b a 0 0).m + 0) + 0
  have e : (termN b a 0 0).m = b.m.sum a.m := by
    show (⟨b.m.x + a.m.x - ((0 : Nat) : Int), b.m.y + a.m.y - ((0 : Nat) : Int), b.m.d + a.m.d - ((0 : Nat) : Int), b.m.e + a.m.e - ((0 : Nat) : Int)⟩ : M) = ⟨b.m.x + a.m.x, b.m.y + a.m.y, b.m.d + a.m.d, b.m.e + a.m.e⟩
    simp
  have ec : zz (termN b a 0 0).c = zz b.c * zz a.c := by
    show zz (b.c * a.c % 101 * wy b.m.d a.m.x ((0 : Nat) : Int) % 101 * wy b.m.e a.m.y ((0 : Nat) : Int) % 101) = _
    have e0 : ((0 : Nat) : Int) = 0 := rfl
    rw [e0, zz_mod, zz_mul, zz_mod, zz_mul, zz_mod, zz_mul, wy_zero ad0 ad1 bx0 bx1, wy_zero ae0 ae1 by0 by1]
    grind
  rw [e, ec, sum_comm' a.m]
  grind
section
variable {w : World} {a b : Option Addr} {ca cb : Nat} {L K : List T}
theorem cmI_L (ha : RL w a ca L) (hb : RL w b cb K) : Calls Try.prog 31 #[.slice a L.length ca, .slice b K.length cb] w (Two2 w (cmV L K)) :=
  (comMulI w a b L.length ca K.length cb (lf L) (lf K) ha hb).mono fun _ _ h => two_out h
theorem cmS_L (ha : RL w a ca L) (hb : RL w b cb K) : Calls Try.prog 32 #[.slice a L.length ca, .slice b K.length cb] w (Two2 w (cmV L K)) :=
  (comMulS w a b L.length ca K.length cb (lf L) (lf K) ha hb).mono fun _ _ h => two_owns (comMul_len _ _ _ _) h
end
theorem drawComMul (w : World) (a : Option Addr) (len cap : Nat) (h : Src w a len cap) :
    Calls Try.prog 30 #[.slice a len cap] w (Pair2 w 5 5) := by
  have hc := drawWylMul w a len cap h
  go_enter Try.func30, Try.ntmps30
  go_wp2_with fail
  refine hc.mono ?_
  rintro e w1 ⟨a1, c1, A, b1, c2, B, rfl, h1, h2, h3, h4, h5⟩
  have H := Hid.mk' (And.intro h1 (And.intro h2 h5))
  clear h1 h2 h5
  go_wp2
  refine bodyPost_ret (results_tmp2 rfl _ _ _) rfl ?_
  exact ⟨_, _, A, _, _, B, rfl, H.out.1, H.out.2.1, h3, h4, H.out.2.2⟩
theorem heCom_L {w : World} {a b c : Option Addr} {ca cb cc : Nat} {L K X : List T} (ha : RL w a ca L) (hb : RL w b cb K) (hc : RL w c cc X) (hk : ∀ P, wmV K L = (P, true) → X = P) : Calls Try.prog 34 #[.slice a L.length ca, .slice b K.length cb, .slice c X.length cc] w (Val w (.bool true)) := by
  have HA := Hid.mk' ha
  have HB := Hid.mk' hb
  have HC := Hid.mk' hc
  clear ha hb hc
  go_enter Try.func34, Try.ntmps34
  rcases wmV_if K L with h1 | ⟨P, h1⟩
  · go_wp2_with fail
    refine (wmI_L HB.out HA.out).mono ?_
    rw [h1]
    rintro e w1 ⟨a1, c1, rfl, b1, r1⟩
    have Z1 := Hid.mk' b1
    clear b1 r1
    go_wp2
    go_ret
    exact ⟨rfl, Z1.out⟩
  · have e := hk P h1
    subst e
    go_wp2_with fail
    refine (wmI_L HB.out HA.out).mono ?_
    rw [h1]
    rintro e w1 ⟨a1, c1, rfl, b1, r1⟩
    have HC1 := Hid.mk' (RL.below HC.out b1)
    have HR1 := Hid.mk' r1
    have Z1 := Hid.mk' b1
    clear b1 r1
    go_wp2_with fail
    refine (he_L HC1.out HR1.out).mono ?_
    rw [sq_same]
    rintro e w2 ⟨rfl, b2⟩
    have Z2 := Hid.mk' (bel_next Z1.out b2)
    clear b2
    go_wp2
    go_ret
    exact ⟨rfl, Z2.out⟩
end Go.Proofs.Ytfcmkkagjkkgjaa
