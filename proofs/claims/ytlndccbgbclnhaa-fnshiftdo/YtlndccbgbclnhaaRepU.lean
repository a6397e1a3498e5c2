/-
  What is moved does what is moved.
-/
import Derived.Test.YtlndccbgbclnhaaGbb
import Derived.Test.YtlndccbgbclnhaaAtL
namespace Go.Proofs.Ytlndccbgbclnhaa
open Go.RowKit
set_option linter.unusedVariables false

theorem chN_self : ∀ n, chN n n = 1
  | 0 => rfl
  | n + 1 => by rw [chN, chN_high n (n + 1) (by omega), chN_self n]
/-- times and slopes of which a slope, last of all, is nothing where nothing is counted. -/
def Kills (g : Gen) : Prop := g.d = sX ∧ g.e = sY
theorem mo_kill {g : Gen} (hg : Kills g) {m : M} (h : m.d.toNat ≠ 0 ∨ m.e.toNat ≠ 0) (u : Vq) : (mo g m).f u 0 0 = 0 := by
  show (Lq.pow g.e m.e.toNat).f ((Lq.pow g.d m.d.toNat).f ((Lq.pow g.y m.y.toNat).f ((Lq.pow g.x m.x.toNat).f u))) 0 0 = 0
  rw [hg.1, hg.2, pow_sY, pow_sX]
  have hz : ∀ j : Nat, j ≠ 0 → faN 0 j = 0 := fun j hj => faN_high 0 j (by omega)
  rcases h with h | h
  · rw [hz _ h, nf_zero]; grind
  · rw [hz _ h, nf_zero]; grind
theorem su_last (f : Nat → Fq) : ∀ n, (∀ i, i < n → f i = 0) → su (List.range (n + 1)) f = f n
  | 0, _ => by show f 0 + 0 = f 0; grind
  | n + 1, h => by
    rw [List.range_succ, su_append, su_last f n (fun i hi => h i (by omega)), h n (by omega)]
    show 0 + (f (n + 1) + 0) = f (n + 1)
    grind
/-- a term of an operator, and one of a form: what the first one does to the other. -/
theorem doO_gen {g : Gen} (hg : Kills g) (u : Vq) {a b : T} (ha : a.m.ok = true ∧ 0 ≤ a.c ∧ a.c ≤ 100) (hb : b.m.ok = true ∧ 0 ≤ b.c ∧ b.c ≤ 100) (hf : b.m.d = 0 ∧ b.m.e = 0) : lin (fun m => (mo g m).f u 0 0) ((doO a b).map (·.1)) = zz a.c * zz b.c * (Lq.mul (mo g a.m) (mo g b.m)).f u 0 0 := by
  obtain ⟨ax0, ax1, ay0, ay1, ad0, ad1, ae0, ae1⟩ := M.ok_iff.1 ha.1
  obtain ⟨bx0, bx1, by0, by1, bd0, bd1, be0, be1⟩ := M.ok_iff.1 hb.1
  have zr : ∀ x : Fq, x * 0 = 0 := by intro x; grind
  rw [mo_mul g a b ha.1 hb.1, sumN_f]
  have lx : limX a b = min a.m.d.toNat b.m.x.toNat := by unfold limX; omega
  have ly : limY a b = min a.m.e.toNat b.m.y.toNat := by unfold limY; omega
  have inner : ∀ i : Nat, (Lq.sumN (fun k => Lq.sc (nf (wN a.m.d.toNat b.m.x.toNat i) * nf (wN a.m.e.toNat b.m.y.toNat k)) (mo g (termN a b i k).m)) (limY a b + 1)).f u 0 0 = su (List.range (limY a b + 1)) (fun k => nf (wN a.m.d.toNat b.m.x.toNat i) * nf (wN a.m.e.toNat b.m.y.toNat k) * (mo g (termN a b i k).m).f u 0 0) := fun i => by
    rw [sumN_f]; rfl
  have kill : ∀ i k : Nat, i < a.m.d.toNat ∨ k < a.m.e.toNat → (mo g (termN a b i k).m).f u 0 0 = 0 := fun i k h => by
    refine mo_kill hg ?_ u
    show (a.m.d + b.m.d - (i : Int)).toNat ≠ 0 ∨ (a.m.e + b.m.e - (k : Int)).toNat ≠ 0
    omega
  unfold doO
  split
  · rename_i h
    show (0 : Fq) = _
    rw [su_zero _ _ (fun i hi => ?_), zr]
    rw [List.mem_range] at hi
    rw [inner]
    refine su_zero _ _ (fun k hk => ?_)
    rw [List.mem_range] at hk
    rw [kill i k (by omega), zr]
  · rename_i h
    have hx : ¬ b.m.x < a.m.d := fun q => h (.inl q)
    have hy : ¬ b.m.y < a.m.e := fun q => h (.inr q)
    have ex : limX a b = a.m.d.toNat := by omega
    have ey : limY a b = a.m.e.toNat := by omega
    rw [ex, su_last _ _ (fun i hi => by
      rw [inner]
      exact su_zero _ _ (fun k _ => by rw [kill i k (.inl hi), zr])), inner, ey, su_last _ _ (fun k hk => by rw [kill _ k (.inr hk), zr])]
    show zz (fMul (fMul a.c b.c) (fMul (fFall b.m.x a.m.d) (fFall b.m.y a.m.e))) * (mo g ⟨b.m.x - a.m.d + a.m.x, b.m.y - a.m.e + a.m.y, 0, 0⟩).f u 0 0 + 0 = _
    have b1 : 0 ≤ fFall b.m.x a.m.d ∧ fFall b.m.x a.m.d ≤ 100 := by unfold fFall; split; exact fl_bd _ _; omega
    have b2 : 0 ≤ fFall b.m.y a.m.e ∧ fFall b.m.y a.m.e ≤ 100 := by unfold fFall; split; exact fl_bd _ _; omega
    have em : (termN a b a.m.d.toNat a.m.e.toNat).m = ⟨b.m.x - a.m.d + a.m.x, b.m.y - a.m.e + a.m.y, 0, 0⟩ := by
      show (⟨a.m.x + b.m.x - (a.m.d.toNat : Int), a.m.y + b.m.y - (a.m.e.toNat : Int), a.m.d + b.m.d - (a.m.d.toNat : Int), a.m.e + b.m.e - (a.m.e.toNat : Int)⟩ : M) = _
      rw [Int.toNat_of_nonneg ad0, Int.toNat_of_nonneg ae0, hf.1, hf.2]
      congr 1 <;> omega
    have w1 : wN a.m.d.toNat b.m.x.toNat a.m.d.toNat = faN b.m.x.toNat a.m.d.toNat := by unfold wN; rw [chN_self, Nat.one_mul]
    have w2 : wN a.m.e.toNat b.m.y.toNat a.m.e.toNat = faN b.m.y.toNat a.m.e.toNat := by unfold wN; rw [chN_self, Nat.one_mul]
    rw [em, w1, w2, zz_fMul (fMul_bd _ _) (fMul_bd _ _), zz_fMul ha.2 hb.2, zz_fMul b1 b2, zz_fall bx0 bx1 ad0 ad1, zz_fall by0 by1 ae0 ae1]
    grind
theorem lin_append (φ : M → Fq) (L K : List T) : lin φ (L ++ K) = lin φ L + lin φ K := su_append _ L K
theorem rowDo_gen (φ : M → Fq) (a : T) (g : Nat → T) : ∀ k, lin φ ((rowDo a g k).map (·.1)) = su (List.range k) (fun j => lin φ ((doO a (g j)).map (·.1)))
  | 0 => rfl
  | k + 1 => by
    rw [rowDo, List.map_append, lin_append, rowDo_gen φ a g k, List.range_succ, su_append]
    show _ + _ = _ + (_ + 0)
    grind
theorem allDo_gen (φ : M → Fq) (f g : Nat → T) (lb : Nat) : ∀ i, lin φ ((allDo f g lb i).map (·.1)) = su (List.range i) (fun k => su (List.range lb) (fun j => lin φ ((doO (f k) (g j)).map (·.1))))
  | 0 => rfl
  | i + 1 => by
    rw [allDo, List.map_append, lin_append, allDo_gen φ f g lb i, rowDo_gen, List.range_succ, su_append]
    show _ + _ = _ + (_ + 0)
    grind
theorem Rp_at (g : Gen) (L : List T) (u : Vq) (n k : Nat) : (Rp g L).f u n k = su L (fun t => zz t.c * (mo g t.m).f u n k) := rfl
theorem mul_at (g : Gen) (A K : List T) (u : Vq) (n k : Nat) : (Lq.mul (Rp g A) (Rp g K)).f u n k = su A (fun a => su K (fun b => zz a.c * zz b.c * (Lq.mul (mo g a.m) (mo g b.m)).f u n k)) := by
  rw [su_swap]
  show (Rp g K).f ((Rp g A).f u) n k = _
  rw [Rp_at]
  refine su_congr (fun b _ => ?_)
  have key : ∀ L : List T, (mo g b.m).f ((Rp g L).f u) n k = su L (fun a => zz a.c * (mo g b.m).f ((mo g a.m).f u) n k) := fun L => by
    induction L with
    | nil =>
      show (mo g b.m).f v0 n k = 0
      rw [(mo g b.m).zero]; rfl
    | cons t r ih =>
      have e : (Rp g (t :: r)).f u = va (vs (zz t.c) ((mo g t.m).f u)) ((Rp g r).f u) := rfl
      rw [e, (mo g b.m).add, (mo g b.m).smul]
      show zz t.c * _ + (mo g b.m).f ((Rp g r).f u) n k = _
      rw [ih]; rfl
  rw [key, ← su_mul]
  refine su_congr (fun a _ => ?_)
  show _ = zz a.c * zz b.c * (mo g b.m).f ((mo g a.m).f u) n k
  grind
/-- what is done, seen where nothing is counted, is a product. -/
theorem wd_gen {g : Gen} (hg : Kills g) {A K X : List T} (h : wdV A K = (X, true)) (u : Vq) : (Rp g X).f u 0 0 = (Lq.mul (Rp g A) (Rp g K)).f u 0 0 := by
  obtain ⟨oA, fK, _, _, _, _⟩ := wd_facts h
  obtain ⟨oK, gK⟩ := frm_iff.1 fK
  rw [mul_at]
  unfold wdV wylDo at h
  split at h
  · split at h
    · rename_i hk
      simp only [Prod.mk.injEq, and_true] at h
      rw [← h]
      show lin (fun m => (mo g m).f u 0 0) (putAll _ []) = _
      rw [lin_putAll _ _ (tok_do hk) falls_nil, lin_nil, allDo_gen, su_lf A]
      have z : ∀ x : Fq, 0 + x = x := by intro x; grind
      rw [z]
      refine su_congr (fun i hi => ?_)
      rw [List.mem_range] at hi
      rw [su_lf K]
      refine su_congr (fun j hj => ?_)
      rw [List.mem_range] at hj
      obtain ⟨_, g1⟩ := good_ok (show polOk A.length (lf A) = true from oA)
      obtain ⟨_, g2⟩ := good_ok (show polOk K.length (lf K) = true from oK)
      exact doO_gen hg u (g1 i hi) (g2 j hj) (by rw [lf_eq hj]; exact gK _ (List.getElem_mem hj))
    · simp at h
  · simp at h
theorem kills_std : Kills stdG := ⟨rfl, rfl⟩
theorem kills_shift (a b : Fq) : Kills (shiftG a b stdG) := ⟨rfl, rfl⟩
theorem sh_frm {L X : List T} {a b : Int} (hL : Frm L) (h : shVl L a b = (X, true)) : Frm X := by
  -- no slope comes in
  unfold shVl mapShift at h
  split at h
  · unfold mapV at h
    split at h
    · rename_i hok
      have fl := fl_of_ok hok
      cases hm : eachM (stShift a b) (lf L) L.length with
      | none => rw [hm] at h; simp [mulO] at h
      | some K =>
        rw [hm] at h
        have e : K = X := by simpa [mulO] using h
        rw [← e]
        have row : ∀ (t : T) (x : Nat) (K : List T), t.m.ok = true → (x : Int) ≤ t.m.x → t.m.d = 0 ∧ t.m.e = 0 → Falls K → Frm K → ∀ y : Nat, (y : Int) ≤ t.m.y + 1 → Frm (shRow a b t x K y) := fun t x K ht hx hd hK fK y => by
          induction y with
          | zero => intro _; exact fK
          | succ y ih =>
            intro hy s hs
            have hF := shRow_falls (a := a) (b := b) ht hx hK y (by omega)
            have hp := putT_facts hF (shM_ok ht hx (show (y : Int) ≤ t.m.y by omega)) (shV_range a b t x y).1 (shV_range a b t x y).2
            have hc := coef_at_mem hp.1 hs
            rw [hp.2] at hc
            unfold updC at hc
            split at hc
            · rename_i q
              rw [meq_iff.1 q]; exact hd
            · have hr := hp.1.2 s hs
              have key : ∀ Z : List T, coef Z s.m ≠ 0 → ∃ z ∈ Z, z.m = s.m := fun Z => by
                induction Z with
                | nil => intro h; exact absurd rfl h
                | cons z r ih =>
                  intro h
                  rw [coef] at h
                  by_cases e : meqB z.m s.m = true
                  · exact ⟨z, List.mem_cons_self .., meqB_eq.1 e⟩
                  · rw [if_neg e] at h
                    obtain ⟨v, hv, he⟩ := ih h
                    exact ⟨v, List.mem_cons_of_mem _ hv, he⟩
              obtain ⟨z, hz, he⟩ := key _ (by rw [hc]; omega)
              rw [← he]
              exact ih (by omega) z hz
        have all : ∀ (t : T) (K : List T), t.m.ok = true → t.m.d = 0 ∧ t.m.e = 0 → Falls K → Frm K → ∀ x : Nat, (x : Int) ≤ t.m.x + 1 → Frm (shAll a b t K x) := fun t K ht hd hK fK x => by
          induction x with
          | zero => intro _; exact fK
          | succ x ih =>
            intro hx
            have := M.ok_iff.1 ht
            exact row t x _ ht (by omega) hd (shAll_falls ht hK x (by omega)) (ih (by omega)) _ (by omega)
        have each : ∀ i K, i ≤ L.length → eachM (stShift a b) (lf L) i = some K → Falls K ∧ Frm K := fun i => by
          induction i with
          | zero => intro K _ hk; cases hk; exact ⟨falls_nil, frm_nil⟩
          | succ i ih =>
            intro K hi hk
            rw [eachM] at hk
            cases hr : eachM (stShift a b) (lf L) i with
            | none => rw [hr] at hk; cases hk
            | some K1 =>
              rw [hr] at hk
              change lim4 (shAll a b (lf L i) K1 ((lf L i).m.x.toNat + 1)) = some K at hk
              unfold lim4 at hk
              split at hk
              · cases hk
                have h1 := ih K1 (by omega) hr
                have ht := (fl.2 i (by omega)).1
                have hx := M.ok_iff.1 ht
                refine ⟨shAll_falls ht h1.1 _ (by omega), all _ _ ht ?_ h1.1 h1.2 _ (by omega)⟩
                rw [lf_eq (by omega)]
                exact hL _ (List.getElem_mem _)
              · cases hk
        exact (each _ K (Nat.le_refl _) hm).2
    · simp at h
  · simp at h
theorem sh_do {P F X Q G Y Z : List T} {a b : Int} (h1 : wdV P F = (X, true)) (h2 : shVl P a b = (Q, true)) (h3 : shVl F a b = (G, true)) (h4 : wdV Q G = (Y, true)) (h5 : shVl X a b = (Z, true)) : Y = Z := by
  obtain ⟨_, fF, _, oX, fX, _⟩ := wd_facts h1
  obtain ⟨_, _, _, oY, fY, _⟩ := wd_facts h4
  have fZ := sh_frm fX h5
  refine eq_of_pf (okL_falls oY).2 (okL_falls (sh_facts h5).2.2.1).2 fY fZ (fun u => ?_)
  rw [← pf_zero fY, ← pf_zero fZ, wd_gen kills_std h4, (sh_facts h2).2.2.2, (sh_facts h3).2.2.2, (sh_facts h5).2.2.2, wd_gen (kills_shift _ _) h1]
/-! at a place -/
theorem pow_vat (A : Lq) (c : Fq) (v : Vq) (h : A.f v = vs c v) : ∀ n, (Lq.pow A n).f v = vs (fpw c n) v
  | 0 => by funext p q; show v p q = 1 * v p q; grind
  | n + 1 => by
    show A.f ((Lq.pow A n).f v) = _
    rw [pow_vat A c v h n, A.smul, h]
    funext p q
    show fpw c n * (c * v p q) = fpw c n * c * v p q
    grind
theorem tX_vat (x y a : Fq) : (Lq.sum tX (Lq.sc a Lq.one)).f (vat x y) = vs (x + a) (vat x y) := by
  funext n k
  show fpw x n * x * fpw y k + a * (fpw x n * fpw y k) = (x + a) * (fpw x n * fpw y k)
  grind
theorem tY_vat (x y b : Fq) : (Lq.sum tY (Lq.sc b Lq.one)).f (vat x y) = vs (y + b) (vat x y) := by
  funext n k
  show fpw x n * (fpw y k * y) + b * (fpw x n * fpw y k) = (y + b) * (fpw x n * fpw y k)
  grind
theorem sh_at {F G : List T} {a b x y : Int} (fF : freeL F = true) (h : shVl F a b = (G, true)) (hx : okB x = true) (hy : okB y = true) : atV G x y = atV F (fAdd x a) (fAdd y b) := by
  obtain ⟨oF, gF⟩ := frm_iff.1 fF
  obtain ⟨hab, _, oG, eG⟩ := sh_facts h
  have gG := sh_frm gF h
  have fG := frm_iff.2 ⟨oG, gG⟩
  have hx' : 0 ≤ x ∧ x ≤ 100 := of_decide_eq_true hx
  have hy' : 0 ≤ y ∧ y ≤ 100 := of_decide_eq_true hy
  have ex : fAdd x a = (x + a) % 101 := fAdd_in hx'.1 hx'.2 hab.1.1 hab.1.2
  have ey : fAdd y b = (y + b) % 101 := fAdd_in hy'.1 hy'.2 hab.2.1 hab.2.2
  have ox : okB (fAdd x a) = true := by rw [ex]; exact decide_eq_true ⟨by omega, by omega⟩
  have oy : okB (fAdd y b) = true := by rw [ey]; exact decide_eq_true ⟨by omega, by omega⟩
  refine zz_inj (at_bd _ _ _) (at_bd _ _ _) ?_
  rw [at_is fG hx hy, at_is fF ox oy, ← pf_zero gG, eG, ex, ey, zz_mod, zz_add, zz_mod, zz_add]
  refine su_congr (fun t ht => ?_)
  obtain ⟨hd, he⟩ := gF t ht
  show zz t.c * (Lq.pow sY t.m.e.toNat).f ((Lq.pow sX t.m.d.toNat).f ((Lq.pow (Lq.sum tY (Lq.sc (zz b) Lq.one)) t.m.y.toNat).f ((Lq.pow (Lq.sum tX (Lq.sc (zz a) Lq.one)) t.m.x.toNat).f (vat (zz x) (zz y))))) 0 0 = _
  rw [hd, he, pow_vat _ _ _ (tX_vat (zz x) (zz y) (zz a)), (Lq.pow (Lq.sum tY (Lq.sc (zz b) Lq.one)) t.m.y.toNat).smul, pow_vat _ _ _ (tY_vat (zz x) (zz y) (zz b))]
  show zz t.c * (fpw (zz x + zz a) t.m.x.toNat * (fpw (zz y + zz b) t.m.y.toNat * vat (zz x) (zz y) 0 0)) = zz t.c * (fpw (zz x + zz a) t.m.x.toNat * fpw (zz y + zz b) t.m.y.toNat)
  rw [vat_zero]; grind
end Go.Proofs.Ytlndccbgbclnhaa
