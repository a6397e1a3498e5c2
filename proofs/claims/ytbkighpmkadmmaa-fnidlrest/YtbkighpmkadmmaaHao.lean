/-
  Operators as linear maps: sums, products, and that who does nothing is nothing.
  A monomial's rank: what is made on the way lies behind what was there, and draws only rise.
  The closure by which a sum's monomials are put in order.
-/
import Derived.Test.YtbkighpmkadmmaaHan
import Derived.Test.YtbkighpmkadmmaaHab
import Derived.Sort.Row
import Derived.Shelf.SlSortCmp.QuietGrown
import Derived.Test.YtbkighpmkadmmaaHac
namespace Go.Proofs.Ytbkighpmkadmmaa
open Go.RowKit
set_option linter.unusedVariables false

def boxD (n : Nat) : M := ⟨((n / 4096 : Nat) : Int), ((n / 256 % 16 : Nat) : Int), ((n / 16 % 16 : Nat) : Int), ((n % 16 : Nat) : Int)⟩
/-- all monomials that are ok. -/
def box : List M := (List.range 65536).map boxD
theorem box_mem {m : M} (h : m.ok = true) : m ∈ box := by
  obtain ⟨x1, x2, y1, y2, d1, d2, e1, e2⟩ := M.ok_iff.1 h
  refine List.mem_map.2 ⟨m.x.toNat * 4096 + m.y.toNat * 256 + m.d.toNat * 16 + m.e.toNat, List.mem_range.2 (by omega), ?_⟩
  cases m
  simp only [boxD, M.mk.injEq] at *
  refine ⟨by omega, by omega, by omega, by omega⟩
theorem box_nodup : box.Nodup := by
  unfold box
  rw [List.Nodup, List.pairwise_map]
  refine (List.nodup_range (n := 65536)).imp (fun {a b} hab e => hab ?_)
  simp only [boxD, M.mk.injEq] at e
  omega
theorem meqB_eq {a b : M} : meqB a b = true ↔ a = b := by
  cases a; cases b; simp [meqB]
theorem su_single (m : M) (v : Fq) : ∀ S : List M, S.Nodup → m ∈ S → su S (fun x => if meqB m x = true then v else 0) = v
  | [], _, h => by cases h
  | t :: r, hn, h => by
    rw [List.nodup_cons] at hn
    rw [su]
    by_cases e : meqB m t = true
    · rw [if_pos e, su_zero _ r (fun s hs => if_neg (fun e2 => hn.1 (by rw [← meqB_eq.1 e, meqB_eq.1 e2]; exact hs)))]
      grind
    · rw [if_neg e, su_single m v r hn.2 (by
        rcases List.mem_cons.1 h with h | h
        · exact absurd (meqB_eq.2 h) e
        · exact h)]
      grind
/-- a sum over an operator's terms. -/
def lin (φ : M → Fq) (L : List T) : Fq := su L (fun t => zz t.c * φ t.m)
theorem lin_nil (φ : M → Fq) : lin φ [] = 0 := rfl
theorem lin_box (φ : M → Fq) : ∀ {L : List T}, Falls L → lin φ L = su box (fun m => zz (coef L m) * φ m)
  | [], _ => by
    rw [lin_nil, su_zero]
    intro t _
    show zz 0 * φ t = 0
    rw [zz_zero]; grind
  | t :: r, h => by
    have hr := lin_box φ h.tail
    have ht := h.2 t (List.mem_cons_self ..)
    have h0 : coef r t.m = 0 := coef_high (List.pairwise_cons.1 h.1).1
    have e : su box (fun m => zz (coef (t :: r) m) * φ m) = su box (fun m => (if meqB t.m m = true then zz t.c * φ t.m else 0) + zz (coef r m) * φ m) := by
      refine su_congr (fun m _ => ?_)
      rw [coef]
      by_cases e : meqB t.m m = true
      · rw [if_pos e, if_pos e, ← meqB_eq.1 e, h0, zz_zero]; grind
      · rw [if_neg e, if_neg e]; grind
    rw [e, su_add, su_single t.m _ box box_nodup (box_mem ht.1), ← hr]
    rfl
theorem lin_add (φ : M → Fq) {L K : List T} (hL : Falls L) (hK : Falls K) : lin φ (addL L K) = lin φ L + lin φ K := by
  have h := addL_facts hL hK
  rw [lin_box φ h.1, lin_box φ hL, lin_box φ hK, ← su_add]
  refine su_congr (fun m _ => ?_)
  rw [h.2, zz_mod, zz_add]; grind
theorem lin_sc (φ : M → Fq) (c : Int) (L : List T) : lin φ (scL c L) = zz c * lin φ L := by
  unfold lin
  rw [scL_map, su_map, ← su_mul]
  refine su_congr (fun t _ => ?_)
  show zz (c * t.c % 101) * φ t.m = _
  rw [zz_mod, zz_mul]; grind
theorem lin_put (φ : M → Fq) {L : List T} (hL : Falls L) {c : Int} {m : M} (hm : m.ok = true) (c0 : 0 ≤ c) (c1 : c ≤ 100) : lin φ (putT c m L) = lin φ L + zz c * φ m := by
  have h := putT_facts hL hm c0 c1
  have e : su box (fun x => zz (coef (putT c m L) x) * φ x) = su box (fun x => (if meqB m x = true then zz c * φ m else 0) + zz (coef L x) * φ x) := by
    refine su_congr (fun x _ => ?_)
    rw [h.2, updC]
    by_cases e : x = m
    · rw [if_pos (meq_iff.2 e), if_pos (meqB_eq.2 e.symm), zz_mod, zz_add, e]; grind
    · rw [if_neg (fun q => e (meq_iff.1 q)), if_neg (fun q => e (meqB_eq.1 q).symm)]; grind
  rw [lin_box φ h.1, e, su_add, su_single m _ box box_nodup (box_mem hm), lin_box φ hL]
  grind
theorem lin_putAll (φ : M → Fq) : ∀ (xs : List T) {L : List T}, TOK xs → Falls L → lin φ (putAll xs L) = lin φ L + lin φ xs
  | [], L, _, hL => by show lin φ L = lin φ L + 0; grind
  | t :: r, L, hx, hL => by
    have h1 := hx t (List.mem_cons_self ..)
    show lin φ (putAll r (putT t.c t.m L)) = _
    rw [lin_putAll φ r (fun s hs => hx s (List.mem_cons_of_mem _ hs)) (putT_facts hL h1.1 h1.2.1 h1.2.2).1, lin_put φ hL h1.1 h1.2.1 h1.2.2]
    show _ = lin φ L + (zz t.c * φ t.m + lin φ r)
    grind
theorem lin_sum (φ ψ : M → Fq) (L : List T) : lin (fun m => φ m + ψ m) L = lin φ L + lin ψ L := by
  unfold lin
  rw [← su_add]
  exact su_congr (fun t _ => by grind)
theorem lin_mul (c : Fq) (φ : M → Fq) (L : List T) : lin (fun m => c * φ m) L = c * lin φ L := by
  unfold lin
  rw [← su_mul]
  exact su_congr (fun t _ => by grind)
/-- two times and their slopes. -/
structure Gen where
  x : Lq
  y : Lq
  d : Lq
  e : Lq
  wx : Wey x d
  wy : Wey y e
  xy : Lq.Com x y
  xe : Lq.Com x e
  dy : Lq.Com d y
  de : Lq.Com d e
def mo (g : Gen) (m : M) : Lq := Lq.mul (Lq.mul (Lq.pow g.x m.x.toNat) (Lq.pow g.y m.y.toNat)) (Lq.mul (Lq.pow g.d m.d.toNat) (Lq.pow g.e m.e.toNat))
/-- what an operator is, times and slopes put in. -/
def Rp (g : Gen) (L : List T) : Lq := ⟨fun u n k => lin (fun m => (mo g m).f u n k) L, fun u v => by
    funext n k
    show lin (fun m => (mo g m).f (va u v) n k) L = _
    rw [show (fun m => (mo g m).f (va u v) n k) = (fun m => (mo g m).f u n k + (mo g m).f v n k) from funext fun m => by rw [(mo g m).add]; rfl, lin_sum]
    rfl, fun c u => by
    funext n k
    show lin (fun m => (mo g m).f (vs c u) n k) L = _
    rw [show (fun m => (mo g m).f (vs c u) n k) = (fun m => c * (mo g m).f u n k) from funext fun m => by rw [(mo g m).smul]; rfl, lin_mul]
    rfl⟩
theorem Rp_nil (g : Gen) : Rp g [] = Lq.nil := rfl
theorem Rp_add (g : Gen) {L K : List T} (hL : Falls L) (hK : Falls K) : Rp g (addL L K) = Lq.sum (Rp g L) (Rp g K) := Lq.ext fun u n k => lin_add (fun m => (mo g m).f u n k) hL hK
theorem Rp_sc (g : Gen) (c : Int) (L : List T) : Rp g (scL c L) = Lq.sc (zz c) (Rp g L) := Lq.ext fun u n k => lin_sc (fun m => (mo g m).f u n k) c L
theorem Rp_sub (g : Gen) {L K : List T} (hL : Falls L) (hK : Falls K) : Rp g (subL L K) = Lq.sum (Rp g L) (Lq.sc (zz 100) (Rp g K)) := by
  unfold subL
  rw [Rp_add g hL (scL_falls (by omega) (by omega) hK), Rp_sc]
theorem Rp_one (g : Gen) (t : T) : Rp g [t] = Lq.sc (zz t.c) (mo g t.m) := Lq.ext fun u n k => by
  show zz t.c * _ + 0 = zz t.c * _
  grind
theorem sumN_f (f : Nat → Lq) (u : Vq) (p q : Nat) : ∀ n, (Lq.sumN f n).f u p q = su (List.range n) (fun i => (f i).f u p q)
  | 0 => rfl
  | n + 1 => by
    rw [List.range_succ, su_append, ← sumN_f f u p q n]
    show _ + _ = _ + (_ + 0)
    grind
theorem wN_out {b c i : Nat} (h : min b c < i) : wN b c i = 0 := by
  unfold wN
  by_cases hb : b < i
  · rw [chN_high b i hb, Nat.zero_mul]
  · rw [faN_high c i (by omega), Nat.mul_zero]
theorem order_cut {x d : Lq} (h : Wey x d) (b c : Nat) : Lq.mul (Lq.pow d b) (Lq.pow x c) = Lq.sumN (fun i => Lq.sc (nf (wN b c i)) (Lq.mul (Lq.pow x (c - i)) (Lq.pow d (b - i)))) (min b c + 1) := by
  rw [wey_order h]
  refine Lq.sumN_cut (by omega) (fun i hi => ?_)
  rw [wN_out (by omega), nf_zero, Lq.sc_zero]
end Go.Proofs.Ytbkighpmkadmmaa
namespace Go.Proofs.Ytbkighpmkadmmaa
open Go.RowKit Go.Sort
set_option linter.unusedVariables false

end Go.Proofs.Ytbkighpmkadmmaa
namespace Go.Proofs.Ytbkighpmkadmmaa
open Go.RowKit Go.Sort
set_option linter.unusedVariables false

end Go.Proofs.Ytbkighpmkadmmaa
