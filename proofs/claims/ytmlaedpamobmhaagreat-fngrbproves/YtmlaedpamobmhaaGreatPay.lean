/-
  Draws of operators: what a law gets is some lists of few terms.
  Products of operators as lists, and how far two are from commuting.
  Products of operators as linear maps; an operator that does nothing has no terms.
-/
import Derived.Test.YtmlaedpamobmhaaGreatPax
import Derived.Test.YtmlaedpamobmhaaGreatPah
import Derived.Test.YtmlaedpamobmhaaGreatPap
import Derived.Test.YtmlaedpamobmhaaGreatPaq
import Derived.Test.YtmlaedpamobmhaaGreatPau
import Derived.Test.YtmlaedpamobmhaaGreatPai
namespace Go.Proofs.YtmlaedpamobmhaaGreat
open Go.RowKit
set_option linter.unusedVariables false

end Go.Proofs.YtmlaedpamobmhaaGreat
namespace Go.Proofs.YtmlaedpamobmhaaGreat
open Go.RowKit
set_option linter.unusedVariables false

def wmV (L K : List T) : List T × Bool := wylMul (lf L) L.length (lf K) K.length
theorem rowM_falls2 {K : List T} {a : T} {g : Nat → T} {lb : Nat} (hK : Falls K) (ha : a.m.ok = true ∧ 0 ≤ a.c ∧ a.c ≤ 100) (hg : Good g lb) : ∀ k K', k ≤ lb → rowM K a g k = some K' → Falls K'
  | 0, K', _, h => by cases h; exact hK
  | k + 1, K', hk, h => by
    rw [rowM] at h
    cases hr : rowM K a g k with
    | none => rw [hr] at h; cases h
    | some K1 =>
      rw [hr] at h
      change stepM K1 a (g k) = some K' at h
      have h1 := rowM_falls2 hK ha hg k K1 (by omega) hr
      unfold stepM at h
      split at h
      · rename_i hok
        cases h
        have h2 := hg k (by omega)
        exact (addL_facts h1 (pairL_facts ⟨ha.1, h2.1, hok.1, rfl, rfl, rfl, rfl, ha.2, h2.2⟩).1).1
      · cases h
theorem mulM_falls2 {f g : Nat → T} {la lb : Nat} (hf : Good f la) (hg : Good g lb) : ∀ i K, i ≤ la → mulM f g lb i = some K → Falls K
  | 0, K, _, h => by cases h; exact falls_nil
  | i + 1, K, hi, h => by
    rw [mulM] at h
    cases hr : mulM f g lb i with
    | none => rw [hr] at h; cases h
    | some K1 =>
      rw [hr] at h
      exact rowM_falls2 (mulM_falls2 hf hg i K1 (by omega) hr) (hf i (by omega)) hg lb K (Nat.le_refl _) h
theorem wmV_case (L K : List T) : wmV L K = ([], false) ∨ ∃ P, wmV L K = (P, true) ∧ okL P = true := by
  unfold wmV wylMul
  split
  · rename_i h
    obtain ⟨l1, g1⟩ := good_ok h.1
    obtain ⟨l2, g2⟩ := good_ok h.2
    cases hm : mulM (lf L) (lf K) K.length L.length with
    | none => exact .inl rfl
    | some P => exact .inr ⟨P, rfl, okL_of (mulM_len _ P hm) (mulM_falls2 g1 g2 _ P (Nat.le_refl _) hm)⟩
  · exact .inl rfl
variable {w : World} {a b : Option Addr} {ca cb : Nat} {L K : List T}
end Go.Proofs.YtmlaedpamobmhaaGreat
namespace Go.Proofs.YtmlaedpamobmhaaGreat
open Go.RowKit
set_option linter.unusedVariables false

theorem wyN : ∀ D X i : Fin 16, i.val ≤ D.val → i.val ≤ X.val → zz (wy (D.val : Int) (X.val : Int) (i.val : Int)) = nf (wN D.val X.val i.val) := by decide +kernel
theorem zz_wy {d x : Int} {i : Nat} (d0 : 0 ≤ d) (d1 : d ≤ 15) (x0 : 0 ≤ x) (x1 : x ≤ 15) (hi : (i : Int) ≤ d) (hx : (i : Int) ≤ x) : zz (wy d x i) = nf (wN d.toNat x.toNat i) := by
  have h := wyN ⟨d.toNat, by omega⟩ ⟨x.toNat, by omega⟩ ⟨i, by omega⟩ (by show i ≤ d.toNat; omega) (by show i ≤ x.toNat; omega)
  simp only [Int.toNat_of_nonneg d0, Int.toNat_of_nonneg x0] at h
  exact h
theorem Lq.sumN_mul (B : Lq) (f : Nat → Lq) : ∀ n, Lq.mul (Lq.sumN f n) B = Lq.sumN (fun i => Lq.mul (f i) B) n
  | 0 => Lq.nil_mul B
  | n + 1 => by rw [Lq.sumN, Lq.sum_mul, Lq.sumN_mul B f n]; rfl
theorem Lq.sc_sumN (c : Fq) (f : Nat → Lq) : ∀ n, Lq.sc c (Lq.sumN f n) = Lq.sumN (fun i => Lq.sc c (f i)) n
  | 0 => Lq.ext fun u n k => by show c * (0 : Fq) = 0; grind
  | n + 1 => by rw [Lq.sumN, Lq.sc_sum, Lq.sc_sumN c f n]; rfl
theorem shuffle {xa ya x' d' y' e' db eb : Lq} (h1 : Lq.Com ya x') (h2 : Lq.Com d' y') (h3 : Lq.Com e' db) : Lq.mul (Lq.mul xa ya) (Lq.mul (Lq.mul x' d') (Lq.mul (Lq.mul y' e') (Lq.mul db eb))) = Lq.mul (Lq.mul (Lq.mul xa x') (Lq.mul ya y')) (Lq.mul (Lq.mul d' db) (Lq.mul e' eb)) :=
  calc _ = Lq.mul xa (Lq.mul (Lq.mul ya x') (Lq.mul (Lq.mul d' y') (Lq.mul (Lq.mul e' db) eb))) := rfl
    _ = Lq.mul xa (Lq.mul (Lq.mul x' ya) (Lq.mul (Lq.mul y' d') (Lq.mul (Lq.mul db e') eb))) := by rw [h1, h2, h3]
    _ = _ := rfl
theorem mo_mul (g : Gen) (a b : T) (ha : a.m.ok = true) (hb : b.m.ok = true) : Lq.mul (mo g a.m) (mo g b.m) = Lq.sumN (fun i => Lq.sumN (fun k => Lq.sc (nf (wN a.m.d.toNat b.m.x.toNat i) * nf (wN a.m.e.toNat b.m.y.toNat k)) (mo g (termN a b i k).m)) (limY a b + 1)) (limX a b + 1) := by
  obtain ⟨ax0, ax1, ay0, ay1, ad0, ad1, ae0, ae1⟩ := M.ok_iff.1 ha
  obtain ⟨bx0, bx1, by0, by1, bd0, bd1, be0, be1⟩ := M.ok_iff.1 hb
  have e1 : Lq.mul (mo g a.m) (mo g b.m) = Lq.mul (Lq.mul (Lq.pow g.x a.m.x.toNat) (Lq.pow g.y a.m.y.toNat)) (Lq.mul (Lq.mul (Lq.pow g.d a.m.d.toNat) (Lq.pow g.x b.m.x.toNat)) (Lq.mul (Lq.mul (Lq.pow g.e a.m.e.toNat) (Lq.pow g.y b.m.y.toNat)) (Lq.mul (Lq.pow g.d b.m.d.toNat) (Lq.pow g.e b.m.e.toNat)))) := by
    have h := g.xe.symm.pows a.m.e.toNat b.m.x.toNat
    calc _ = Lq.mul (Lq.mul (Lq.pow g.x a.m.x.toNat) (Lq.pow g.y a.m.y.toNat)) (Lq.mul (Lq.pow g.d a.m.d.toNat) (Lq.mul (Lq.mul (Lq.pow g.e a.m.e.toNat) (Lq.pow g.x b.m.x.toNat)) (Lq.mul (Lq.pow g.y b.m.y.toNat) (Lq.mul (Lq.pow g.d b.m.d.toNat) (Lq.pow g.e b.m.e.toNat))))) := rfl
      _ = Lq.mul (Lq.mul (Lq.pow g.x a.m.x.toNat) (Lq.pow g.y a.m.y.toNat)) (Lq.mul (Lq.pow g.d a.m.d.toNat) (Lq.mul (Lq.mul (Lq.pow g.x b.m.x.toNat) (Lq.pow g.e a.m.e.toNat)) (Lq.mul (Lq.pow g.y b.m.y.toNat) (Lq.mul (Lq.pow g.d b.m.d.toNat) (Lq.pow g.e b.m.e.toNat))))) := by rw [h]
      _ = _ := rfl
  have lx : limX a b = min a.m.d.toNat b.m.x.toNat := by unfold limX; omega
  have ly : limY a b = min a.m.e.toNat b.m.y.toNat := by unfold limY; omega
  rw [e1, order_cut g.wx, order_cut g.wy, Lq.sumN_mul, Lq.mul_sumN, lx, ly]
  refine Lq.sumN_congr (fun i hi => ?_)
  rw [Lq.sc_mul, Lq.mul_sc, Lq.sumN_mul, Lq.mul_sumN, Lq.mul_sumN, Lq.sc_sumN]
  refine Lq.sumN_congr (fun k hk => ?_)
  rw [Lq.sc_mul, Lq.mul_sc, Lq.mul_sc, Lq.sc_sc, shuffle (g.xy.symm.pows _ _) (g.dy.pows _ _) (g.de.symm.pows _ _), ← Lq.pow_add, ← Lq.pow_add, ← Lq.pow_add, ← Lq.pow_add]
  unfold mo termN
  simp only
  rw [show a.m.x.toNat + (b.m.x.toNat - i) = (a.m.x + b.m.x - (i : Int)).toNat by omega, show a.m.y.toNat + (b.m.y.toNat - k) = (a.m.y + b.m.y - (k : Int)).toNat by omega, show a.m.d.toNat - i + b.m.d.toNat = (a.m.d + b.m.d - (i : Int)).toNat by omega, show a.m.e.toNat - k + b.m.e.toNat = (a.m.e + b.m.e - (k : Int)).toNat by omega]
theorem Rp_pair (g : Gen) {a b : T} {m : M} (h : Two a b m) : Rp g (pairL a b) = Lq.sc (zz a.c * zz b.c) (Lq.mul (mo g a.m) (mo g b.m)) := by
  obtain ⟨ax0, ax1, ay0, ay1, ad0, ad1, ae0, ae1⟩ := M.ok_iff.1 h.ok1
  obtain ⟨bx0, bx1, by0, by1, bd0, bd1, be0, be1⟩ := M.ok_iff.1 h.ok2
  rw [mo_mul g a b h.ok1 h.ok2, Lq.sc_sumN]
  refine Lq.ext fun u p q => ?_
  show lin (fun m => (mo g m).f u p q) (putAll (emitN a b (limX a b + 1)) []) = _
  rw [lin_putAll _ _ (emit_tok h) falls_nil, lin_nil, sumN_f]
  unfold lin emitN rowN
  rw [su_flat]
  have z : ∀ x : Fq, 0 + x = x := by intro x; grind
  rw [z]
  refine su_congr (fun i hi => ?_)
  rw [List.mem_range] at hi
  rw [su_map, Lq.sc_sumN, sumN_f]
  refine su_congr (fun k hk => ?_)
  rw [List.mem_range] at hk
  have hx : limX a b = min a.m.d.toNat b.m.x.toNat := by unfold limX; omega
  have hy : limY a b = min a.m.e.toNat b.m.y.toNat := by unfold limY; omega
  show zz (termN a b i k).c * _ = zz a.c * zz b.c * (nf _ * nf _ * _)
  have hc : zz (termN a b i k).c = zz a.c * zz b.c * nf (wN a.m.d.toNat b.m.x.toNat i) * nf (wN a.m.e.toNat b.m.y.toNat k) := by
    show zz (a.c * b.c % 101 * wy a.m.d b.m.x i % 101 * wy a.m.e b.m.y k % 101) = _
    rw [zz_mod, zz_mul, zz_mod, zz_mul, zz_mod, zz_mul, zz_wy ad0 ad1 bx0 bx1 (by omega) (by omega), zz_wy ae0 ae1 by0 by1 (by omega) (by omega)]
  rw [hc]
  grind
/-- the first n of some terms. -/
def Rn (g : Gen) (f : Nat → T) (n : Nat) : Lq := Lq.sumN (fun i => Lq.sc (zz (f i).c) (mo g (f i).m)) n
theorem Rn_list (g : Gen) (L : List T) : Rp g L = Rn g (lf L) L.length := by
  refine Lq.ext fun u p q => ?_
  unfold Rn
  rw [sumN_f]
  show su L _ = _
  have e : L = (List.range L.length).map (lf L) := by
    refine List.ext_getElem (by simp) (fun i h1 h2 => ?_)
    rw [List.getElem_map, List.getElem_range, lf_eq h1]
  have key : ∀ (f : T → Fq), su L f = su (List.range L.length) (fun i => f (lf L i)) := fun f => by
    have := su_map (lf L) f (List.range L.length)
    rw [← e] at this
    exact this
  rw [key]
  rfl
theorem rowM_Rp (g : Gen) {K : List T} {a : T} {f : Nat → T} {lb : Nat} (hK : Falls K) (ha : a.m.ok = true ∧ 0 ≤ a.c ∧ a.c ≤ 100) (hg : Good f lb) : ∀ k K', k ≤ lb → rowM K a f k = some K' → Rp g K' = Lq.sum (Rp g K) (Lq.mul (Lq.sc (zz a.c) (mo g a.m)) (Rn g f k))
  | 0, K', _, h => by cases h; unfold Rn; rw [Lq.sumN, Lq.mul_nil, Lq.sum_nil]
  | k + 1, K', hk, h => by
    rw [rowM] at h
    cases hr : rowM K a f k with
    | none => rw [hr] at h; cases h
    | some K1 =>
      rw [hr] at h
      change stepM K1 a (f k) = some K' at h
      have h1 := rowM_Rp g hK ha hg k K1 (by omega) hr
      have hf1 := rowM_falls2 hK ha hg k K1 (by omega) hr
      unfold stepM at h
      split at h
      · rename_i hok
        cases h
        have h2 := hg k (by omega)
        have tw : Two a (f k) (a.m.sum (f k).m) := ⟨ha.1, h2.1, hok.1, rfl, rfl, rfl, rfl, ha.2, h2.2⟩
        rw [Rp_add g hf1 (pairL_facts tw).1, h1, Rp_pair g tw]
        unfold Rn
        rw [Lq.sumN, Lq.mul_sum, Lq.sum_assoc, Lq.mul_sc, Lq.sc_mul, Lq.sc_mul, Lq.sc_sc, show zz (f k).c * zz a.c = zz a.c * zz (f k).c by grind]
      · cases h
theorem mulM_Rp (g : Gen) {f f' : Nat → T} {la lb : Nat} (hf : Good f la) (hg : Good f' lb) : ∀ i K, i ≤ la → mulM f f' lb i = some K → Rp g K = Lq.mul (Rn g f i) (Rn g f' lb)
  | 0, K, _, h => by cases h; unfold Rn; rw [Lq.sumN, Lq.nil_mul]; rfl
  | i + 1, K, hi, h => by
    rw [mulM] at h
    cases hr : mulM f f' lb i with
    | none => rw [hr] at h; cases h
    | some K1 =>
      rw [hr] at h
      have h1 := mulM_Rp g hf hg i K1 (by omega) hr
      rw [rowM_Rp g (mulM_falls2 hf hg i K1 (by omega) hr) (hf i (by omega)) hg lb K (Nat.le_refl _) h, h1]
      unfold Rn
      rw [Lq.sumN.eq_2, Lq.sum_mul]
theorem Rp_mul (g : Gen) {A B P : List T} (h : wmV A B = (P, true)) : Rp g P = Lq.mul (Rp g A) (Rp g B) := by
  unfold wmV wylMul at h
  split at h
  · rename_i hok
    obtain ⟨l1, g1⟩ := good_ok hok.1
    obtain ⟨l2, g2⟩ := good_ok hok.2
    cases hm : mulM (lf A) (lf B) B.length A.length with
    | none => rw [hm] at h; simp [mulO] at h
    | some K =>
      rw [hm] at h
      have : K = P := by simpa [mulO] using h
      rw [← this, Rn_list, Rn_list g B]
      rw [Rn_list]
      rw [← Rn_list g K]
      exact mulM_Rp g g1 g2 _ K (Nat.le_refl _) hm
  · simp at h
/-! the times and slopes themselves -/
def tX : Lq := ⟨fun u n k => u (n + 1) k, fun _ _ => rfl, fun _ _ => rfl⟩
def tY : Lq := ⟨fun u n k => u n (k + 1), fun _ _ => rfl, fun _ _ => rfl⟩
def sX : Lq := ⟨fun u n k => nf n * u (n - 1) k, fun u v => by funext n k; simp only [va]; grind, fun c u => by funext n k; simp only [vs]; grind⟩
def sY : Lq := ⟨fun u n k => nf k * u n (k - 1), fun u v => by funext n k; simp only [va]; grind, fun c u => by funext n k; simp only [vs]; grind⟩
def stdG : Gen where
  x := tX
  y := tY
  d := sX
  e := sY
  wx := Lq.ext fun u n k => by
    show nf (n + 1) * u (n + 1 - 1) k = nf n * u (n - 1 + 1) k + u n k
    rw [nf_add, nf_one, show n + 1 - 1 = n by omega]
    cases n with
    | zero => rw [nf_zero]; grind
    | succ n => rw [show n + 1 - 1 + 1 = n + 1 by omega]; grind
  wy := Lq.ext fun u n k => by
    show nf (k + 1) * u n (k + 1 - 1) = nf k * u n (k - 1 + 1) + u n k
    rw [nf_add, nf_one, show k + 1 - 1 = k by omega]
    cases k with
    | zero => rw [nf_zero]; grind
    | succ k => rw [show k + 1 - 1 + 1 = k + 1 by omega]; grind
  xy := rfl
  xe := rfl
  dy := rfl
  de := Lq.ext fun u n k => by
    show nf k * (nf n * u (n - 1) (k - 1)) = nf n * (nf k * u (n - 1) (k - 1))
    grind
theorem pow_tX (u : Vq) (n k : Nat) : ∀ j, (Lq.pow tX j).f u n k = u (n + j) k
  | 0 => rfl
  | j + 1 => by rw [Lq.pow_succ']; show (Lq.pow tX j).f (tX.f u) n k = _; rw [pow_tX]; rfl
theorem pow_tY (u : Vq) (n k : Nat) : ∀ j, (Lq.pow tY j).f u n k = u n (k + j)
  | 0 => rfl
  | j + 1 => by rw [Lq.pow_succ']; show (Lq.pow tY j).f (tY.f u) n k = _; rw [pow_tY]; rfl
theorem pow_sX : ∀ (j : Nat) (u : Vq) (n k : Nat), (Lq.pow sX j).f u n k = nf (faN n j) * u (n - j) k
  | 0, u, n, k => by show u n k = nf 1 * u n k; rw [nf_one]; grind
  | j + 1, u, n, k => by
    rw [Lq.pow_succ']
    show (Lq.pow sX j).f (sX.f u) n k = _
    rw [pow_sX j]
    show nf (faN n j) * (nf (n - j) * u (n - j - 1) k) = nf (faN n j * (n - j)) * u (n - (j + 1)) k
    rw [nf_mul, show n - j - 1 = n - (j + 1) by omega]; grind
theorem pow_sY : ∀ (j : Nat) (u : Vq) (n k : Nat), (Lq.pow sY j).f u n k = nf (faN k j) * u n (k - j)
  | 0, u, n, k => by show u n k = nf 1 * u n k; rw [nf_one]; grind
  | j + 1, u, n, k => by
    rw [Lq.pow_succ']
    show (Lq.pow sY j).f (sY.f u) n k = _
    rw [pow_sY j]
    show nf (faN k j) * (nf (k - j) * u n (k - j - 1)) = nf (faN k j * (k - j)) * u n (k - (j + 1))
    rw [nf_mul, show k - j - 1 = k - (j + 1) by omega]; grind
theorem mo_std (m : M) (u : Vq) (n k : Nat) : (mo stdG m).f u n k = nf (faN n m.d.toNat) * nf (faN k m.e.toNat) * u (n - m.d.toNat + m.x.toNat) (k - m.e.toNat + m.y.toNat) := by
  show (Lq.pow sY m.e.toNat).f ((Lq.pow sX m.d.toNat).f ((Lq.pow tY m.y.toNat).f ((Lq.pow tX m.x.toNat).f u))) n k = _
  rw [pow_sY, pow_sX, pow_tY, pow_tX]
  grind
theorem su_falls {P : List T} (hP : Falls P) {t0 : T} (h0 : t0 ∈ P) {f : T → Fq} (hf : ∀ t ∈ P, t.m ≠ t0.m → f t = 0) : su P f = f t0 := by
  induction P with
  | nil => cases h0
  | cons t r ih =>
    rw [su]
    have hp := (List.pairwise_cons.1 hP.1).1
    rcases List.mem_cons.1 h0 with rfl | h1
    · rw [su_zero f r (fun s hs => hf s (List.mem_cons_of_mem _ hs) (fun e => by have := hp s hs; rw [e] at this; omega))]
      grind
    · rw [ih hP.tail h1 (fun s hs => hf s (List.mem_cons_of_mem _ hs)), hf t (List.mem_cons_self ..) (fun e => by have := hp t0 h1; rw [e] at this; omega)]
      grind
theorem fq_mul : ∀ a b : Fq, a * b = 0 → a = 0 ∨ b = 0 := by decide +kernel
theorem fa_ne : ∀ D : Fin 16, nf (faN D.val D.val) ≠ 0 := by decide +kernel
theorem list_min {α : Type} (f : α → Nat) : ∀ L : List α, L ≠ [] → ∃ t ∈ L, ∀ s ∈ L, f t ≤ f s
  | [], h => absurd rfl h
  | [t], _ => ⟨t, List.mem_singleton.2 rfl, fun s hs => by rw [List.mem_singleton.1 hs]; exact Nat.le_refl _⟩
  | t :: s :: r, _ => by
    obtain ⟨m, hm, hl⟩ := list_min f (s :: r) (by simp)
    by_cases h : f t ≤ f m
    · exact ⟨t, List.mem_cons_self .., fun x hx => by
        rcases List.mem_cons.1 hx with rfl | hx
        · exact Nat.le_refl _
        · exact Nat.le_trans h (hl x hx)⟩
    · exact ⟨m, List.mem_cons_of_mem _ hm, fun x hx => by
        rcases List.mem_cons.1 hx with rfl | hx
        · omega
        · exact hl x hx⟩
/-- an operator that is not 0 does something to a power of the times that has no more than its slopes. -/
theorem does_some {P : List T} (hP : Falls P) (hne : P ≠ []) : ∃ t0 ∈ P, (Rp stdG P).f (fun n k => if n = t0.m.x.toNat ∧ k = t0.m.y.toNat then 1 else 0) t0.m.d.toNat t0.m.e.toNat ≠ 0 := by
  obtain ⟨t0, h0, hmin⟩ := list_min (fun t : T => t.m.d.toNat + t.m.e.toNat) P hne
  refine ⟨t0, h0, ?_⟩
  have r0 := hP.2 t0 h0
  obtain ⟨x0, x1, y0, y1, d0, d1, e0, e1⟩ := M.ok_iff.1 r0.1
  show su P (fun t => zz t.c * (mo stdG t.m).f _ t0.m.d.toNat t0.m.e.toNat) ≠ 0
  rw [su_falls hP h0 (fun t ht hm => ?_)]
  · rw [mo_std]
    have hz : (if t0.m.d.toNat - t0.m.d.toNat + t0.m.x.toNat = t0.m.x.toNat ∧ t0.m.e.toNat - t0.m.e.toNat + t0.m.y.toNat = t0.m.y.toNat then (1 : Fq) else 0) = 1 := if_pos ⟨by omega, by omega⟩
    simp only [hz]
    intro h
    rcases fq_mul _ _ h with h | h
    · exact zz_ne r0.2.1 r0.2.2 h
    · rcases fq_mul _ _ h with h | h
      · rcases fq_mul _ _ h with h | h
        · exact fa_ne ⟨t0.m.d.toNat, by omega⟩ h
        · exact fa_ne ⟨t0.m.e.toNat, by omega⟩ h
      · exact absurd h (by decide)
  · rw [mo_std]
    have r1 := hP.2 t ht
    obtain ⟨u0, u1, v0, v1, f0, f1, g0, g1⟩ := M.ok_iff.1 r1.1
    have hm2 : t0.m.d.toNat + t0.m.e.toNat ≤ t.m.d.toNat + t.m.e.toNat := hmin t ht
    have zl : ∀ x : Fq, 0 * x = 0 := by intro x; grind
    have zr : ∀ x : Fq, x * 0 = 0 := by intro x; grind
    by_cases hd : t0.m.d.toNat < t.m.d.toNat
    · rw [faN_high _ _ hd, nf_zero, zl, zl, zr]
    · by_cases he : t0.m.e.toNat < t.m.e.toNat
      · rw [faN_high _ _ he, nf_zero, zr, zl, zr]
      · rw [if_neg, zr, zr]
        rintro ⟨hx, hy⟩
        refine hm ?_
        have a1 : t.m.x = t0.m.x := by omega
        have a2 : t.m.y = t0.m.y := by omega
        have a3 : t.m.d = t0.m.d := by omega
        have a4 : t.m.e = t0.m.e := by omega
        revert a1 a2 a3 a4
        cases t.m; cases t0.m
        intro a1 a2 a3 a4
        simp only at a1 a2 a3 a4
        rw [a1, a2, a3, a4]
theorem nil_of_Rp {P : List T} (hP : Falls P) (h : Rp stdG P = Lq.nil) : P = [] := by
  by_cases hne : P = []
  · exact hne
  · obtain ⟨t0, _, h1⟩ := does_some hP hne
    rw [h] at h1
    exact absurd rfl h1
/-- two operators that do the same are the same. -/
theorem eq_of_Rp {P Q : List T} (hP : Falls P) (hQ : Falls Q) (h : Rp stdG P = Rp stdG Q) : P = Q := by
  refine (sub_nil_iff hP hQ).1 (nil_of_Rp (subL_facts hP hQ).1 ?_)
  rw [Rp_sub stdG hP hQ, h]
  refine Lq.ext fun u n k => ?_
  show _ + zz 100 * _ = (0 : Fq)
  have : zz 100 = 100 := rfl
  rw [this]
  grind
end Go.Proofs.YtmlaedpamobmhaaGreat
