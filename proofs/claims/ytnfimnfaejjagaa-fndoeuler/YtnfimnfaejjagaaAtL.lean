/-
  What forms are at a place: sums and products; the draw of a form and two numbers.
-/
import Derived.Test.YtnfimnfaejjagaaGbb
import Derived.Test.YtnfimnfaejjagaaRepT
import Derived.Test.YtnfimnfaejjagaaActAt
namespace Go.Proofs.Ytnfimnfaejjagaa
open Go.RowKit
set_option linter.unusedVariables false

def fpw (c : Fq) : Nat → Fq
  | 0 => 1
  | n + 1 => fpw c n * c
theorem fpw_add (c : Fq) (n : Nat) : ∀ m, fpw c (n + m) = fpw c n * fpw c m
  | 0 => by show fpw c n = fpw c n * 1; grind
  | m + 1 => by show fpw c (n + m) * c = fpw c n * (fpw c m * c); rw [fpw_add c n m]; grind
theorem pw_fpw (c : Int) : ∀ n, zz (pw c n) = fpw (zz c) n
  | 0 => rfl
  | n + 1 => by show zz (pw c n * c % 101) = _; rw [zz_mod, zz_mul, pw_fpw c n]; rfl
/-- the powers of a place. -/
def vat (x y : Fq) : Vq := fun n k => fpw x n * fpw y k
def atV (L : List T) (x y : Int) : Int := actAt L.length (lf L) x y
theorem at_sum (f : Nat → T) (x y : Int) : ∀ k, zz (atT f x y k) = su (List.range k) (fun i => zz (f i).c * vat (zz x) (zz y) (f i).m.x.toNat (f i).m.y.toNat)
  | 0 => rfl
  | k + 1 => by
    rw [atT, zz_mod, zz_add, at_sum f x y k, List.range_succ, su_append, zz_mul, zz_mul, pw_fpw, pw_fpw]
    show _ = _ + (zz (f k).c * (fpw _ _ * fpw _ _) + 0)
    grind
theorem at_is {L : List T} {x y : Int} (hf : freeL L = true) (hx : okB x = true) (hy : okB y = true) : zz (atV L x y) = pf (vat (zz x) (zz y)) L := by
  unfold atV actAt
  rw [if_pos ⟨hf, hx, hy⟩, at_sum]
  unfold pf lin
  rw [su_lf L]
theorem at_bd (L : List T) (x y : Int) : 0 ≤ atV L x y ∧ atV L x y ≤ 100 := by
  unfold atV actAt
  split
  · exact atT_bd _ _ _ _
  · omega
theorem at_no {L : List T} {x y : Int} (h : ¬ (freeL L = true ∧ okB x = true ∧ okB y = true)) : atV L x y = 0 := if_neg h
theorem Rp_vat {L : List T} (h : Frm L) (x y : Fq) : (Rp stdG L).f (vat x y) = vs (pf (vat x y) L) (vat x y) := by
  funext n k
  rw [Rp_frm h]
  show pf (fun p q => fpw x (n + p) * fpw y (k + q)) L = pf (vat x y) L * (fpw x n * fpw y k)
  have e : (fun p q => fpw x (n + p) * fpw y (k + q)) = vs (fpw x n * fpw y k) (vat x y) := by
    funext p q
    show fpw x (n + p) * fpw y (k + q) = fpw x n * fpw y k * (fpw x p * fpw y q)
    rw [fpw_add, fpw_add]; grind
  rw [e, pf_vs]
  grind
theorem pf_zero {L : List T} (h : Frm L) (u : Vq) : (Rp stdG L).f u 0 0 = pf u L := by
  rw [Rp_frm h]
  congr 1
  funext p q
  rw [Nat.zero_add, Nat.zero_add]
theorem vat_zero (x y : Fq) : vat x y 0 0 = 1 := by show (1 : Fq) * 1 = 1; decide
theorem wm_frm {A B P : List T} (fA : Frm A) (fB : Frm B) (h : wmV A B = (P, true)) : Frm P := fun t ht => by
  have hl := (wm_lin h).1
  by_cases e : t.m.d = 0 ∧ t.m.e = 0
  · exact e
  · exfalso
    have h1 := hl (dl t.m)
    have fP := wm_falls h
    have r := fP.2 t ht
    have h2 : lin (dl t.m) P = zz t.c := by
      unfold lin
      rw [su_falls fP ht (fun s hs hne => by unfold dl; rw [if_neg (fun q => hne (meqB_eq.1 q).symm)]; grind)]
      unfold dl
      rw [if_pos (meqB_eq.2 rfl)]
      grind
    rw [h2, su_zero] at h1
    · exact zz_ne r.2.1 r.2.2 h1
    · intro a ha
      refine su_zero _ _ (fun b hb => ?_)
      have tw := two_of h ha hb
      obtain ⟨ax0, ax1, ay0, ay1, ad0, ad1, ae0, ae1⟩ := M.ok_iff.1 tw.ok1
      obtain ⟨bx0, bx1, by0, by1, bd0, bd1, be0, be1⟩ := M.ok_iff.1 tw.ok2
      have ha2 := fA a ha
      have hb2 := fB b hb
      have lx : limX a b = 0 := by unfold limX; omega
      have ly : limY a b = 0 := by unfold limY; omega
      rw [pair_lin _ tw, lx, ly]
      show (zz (termN a b 0 0).c * dl t.m (termN a b 0 0).m + 0) + 0 = 0
      unfold dl
      rw [if_neg]
      · grind
      · intro e2
        refine e ?_
        rw [meqB_eq.1 e2]
        show a.m.d + b.m.d - ((0 : Nat) : Int) = 0 ∧ a.m.e + b.m.e - ((0 : Nat) : Int) = 0
        omega
/-- a product of forms is at a place what both are. -/
theorem at_mul {A B P : List T} {x y : Int} (fA : freeL A = true) (fB : freeL B = true) (hx : okB x = true) (hy : okB y = true) (h : wmV A B = (P, true)) : atV P x y = fMul (atV A x y) (atV B x y) := by
  obtain ⟨oA, gA⟩ := frm_iff.1 fA
  obtain ⟨oB, gB⟩ := frm_iff.1 fB
  have gP := wm_frm gA gB h
  have fP := frm_iff.2 ⟨wm_ok h, gP⟩
  have b1 := at_bd A x y
  have b2 := at_bd B x y
  refine zz_inj (at_bd P x y) (fMul_bd _ _) ?_
  rw [zz_fMul b1 b2, at_is fP hx hy, at_is fA hx hy, at_is fB hx hy, ← pf_zero gP, Rp_mul _ h]
  show (Rp stdG B).f ((Rp stdG A).f (vat (zz x) (zz y))) 0 0 = _
  rw [Rp_vat gA, (Rp stdG B).smul, Rp_vat gB]
  show pf _ A * (pf _ B * vat (zz x) (zz y) 0 0) = _
  rw [vat_zero]; grind
theorem at_add {A B : List T} {x y : Int} (fA : freeL A = true) (fB : freeL B = true) (hx : okB x = true) (hy : okB y = true) (hl : A.length + B.length ≤ 400) : addV A B = (addL A B, true) ∧ atV (addL A B) x y = fAdd (atV A x y) (atV B x y) := by
  obtain ⟨oA, gA⟩ := frm_iff.1 fA
  obtain ⟨oB, gB⟩ := frm_iff.1 fB
  have a1 := okL_add oA oB hl
  have fS := frm_iff.2 ⟨a1.2, frm_add (okL_falls oA).2 (okL_falls oB).2 gA gB⟩
  have b1 := at_bd A x y
  have b2 := at_bd B x y
  refine ⟨a1.1, zz_inj (at_bd _ x y) ?_ ?_⟩
  · rw [fAdd_in b1.1 b1.2 b2.1 b2.2]; omega
  · rw [fAdd_in b1.1 b1.2 b2.1 b2.2, zz_mod, zz_add, at_is fS hx hy, at_is fA hx hy, at_is fB hx hy, pf_add _ (okL_falls oA).2 (okL_falls oB).2]
def x3 : List T := [⟨3, ⟨1, 0, 0, 0⟩⟩]
theorem at_x3 {x y : Int} (hx : okB x = true) (hy : okB y = true) : atV x3 x y = fMul 3 x := by
  have hf : freeL x3 = true := by decide
  have hx' : 0 ≤ x ∧ x ≤ 100 := by unfold okB at hx; exact of_decide_eq_true hx
  refine zz_inj (at_bd _ _ _) (fMul_bd _ _) ?_
  rw [at_is hf hx hy, zz_fMul ⟨by omega, by omega⟩ hx']
  show zz 3 * (fpw (zz x) 1 * fpw (zz y) 0) + 0 = _
  show zz 3 * (1 * zz x * 1) + 0 = _
  grind
section
variable {w : World} {a : Option Addr} {ca : Nat} {L : List T}
theorem atI_L (x y : Int) (ha : RL w a ca L) : Calls Try.prog 25 #[.slice a L.length ca, .int .i64 x, .int .i64 y] w (Val w (.int .i64 (atV L x y))) := actAtI w a L.length ca (lf L) x y ha
theorem atS_L (x y : Int) (ha : RL w a ca L) : Calls Try.prog 26 #[.slice a L.length ca, .int .i64 x, .int .i64 y] w (Val w (.int .i64 (atV L x y))) := actAtS w a L.length ca (lf L) x y ha
end
theorem polOf_le (c : Int) (m : M) : (polOf c m).length ≤ 1 := by unfold polOf; split <;> simp
theorem ofI_L (c x y d e : Int) (w : World) : Calls Try.prog 19 #[.int .i64 c, .agg #[.int .i64 x, .int .i64 y, .int .i64 d, .int .i64 e]] w (One1 w (polOf c ⟨x, y, d, e⟩)) :=
  (polOfI c x y d e w).mono fun _ _ h => one_owns (Nat.le_trans (polOf_le c ⟨x, y, d, e⟩) (by omega)) h
theorem drawActAt (w : World) (a : Option Addr) (len cap : Nat) (h : Src w a len cap) :
    Calls Try.prog 24 #[.slice a len cap] w fun e w' => ∃ (a1 : Option Addr) (c1 : Nat) (A : List T) (n m : Int), e = .returned (.tuple #[.slice a1 A.length c1, .int .i64 n, .int .i64 m]) ∧ RL w' a1 c1 A ∧ A.length ≤ 5 ∧ Below w.heap.size w w' := by
  go_enter Try.func24, Try.ntmps24
  go_wp2_with fail
  refine (open_any _ _ _ _ h).mono ?_
  rintro e w0 ⟨rfl, hR0, b0⟩
  have hl0 := hR0.lt
  clear h
  go_wp2_with fail
  refine (pick_any w0 _ _ 12 hR0 (by omega) (by omega) (by omega)).mono ?_
  rintro e w1 ⟨j, rfl, j0, j1, hk⟩
  have hR1 := hk.rdr hR0
  have b1 := hk.beside.below b0 (Nat.le_refl _) (by omega)
  have hs1 := hk.beside.size
  clear hk hR0 b0
  by_cases hj : j = 0
  · subst hj
    go_wp2_with fail
    refine (any_any w1 _ _ 2 hR1 (by omega) (by omega) (by omega)).mono ?_
    rintro e w2 ⟨pa, m, pc, f, q, rfl, hrd, hm, hblk, hq, hR2, s2⟩
    have b2 := s2.below b1 (Nat.le_refl _) (by omega)
    have hne := off_of hblk (show w.heap.size < w1.heap.size by omega)
    have hs2 := s2.size
    clear hR1 s2 b1 hblk
    go_wp2_with fail
    refine (num_any w2 _ _ 6 hR2 (by omega) (by omega) (by omega)).mono ?_
    rintro e w3 ⟨o, q3, rfl, hq3, hR3, s3⟩
    have b3 := s3.below b2 (Nat.le_refl _) (by omega)
    have hrd3 := hrd.beside s3 hne
    have hs3 := s3.size
    clear hR2 s3 b2 hrd
    go_wp2_with fail
    refine (num_any w3 _ _ 6 hR3 (by omega) (by omega) (by omega)).mono ?_
    rintro e w4 ⟨o4, q4, rfl, hq4, hR4, s4⟩
    have b4 := s4.below b3 (Nat.le_refl _) (by omega)
    obtain ⟨A, hA0, hA⟩ := list_of (hrd3.beside s4 hne)
    subst hA0
    have H := Hid.mk' (And.intro hA b4)
    clear hR3 hR4 s4 b3 hrd3 hA b4 hne
    go_wp2
    refine bodyPost_ret (results_tmp3 rfl _ _ _) rfl ?_
    exact ⟨_, _, A, _, _, rfl, H.out.1, hm, H.out.2⟩
  · have hjb : (j == 0) = false := by simp [hj]
    go_wp2_with fail
    refine (form_any w1 _ _ 4 hR1 (by omega) (by omega) (by omega)).mono ?_
    rintro e w2 ⟨v2, A, q, rfl, ho2, hl2, hq, hR2, s2⟩
    have b2 := s2.below b1 (Nat.le_refl _) (by omega)
    have hs2 := s2.size
    obtain ⟨pa, pc, hv2, hout⟩ := out_of_owns ho2 (by omega)
    subst hv2
    have hrd : Rd w2 pa A.length pc (lf A) := hout.1
    have hne := off_of hout.2.2 (show w.heap.size < w1.heap.size by omega)
    clear hR1 s2 b1 ho2 hout
    go_wp2_with fail
    refine (num_any w2 _ _ 16 hR2 (by omega) (by omega) (by omega)).mono ?_
    rintro e w3 ⟨o, q3, rfl, hq3, hR3, s3⟩
    have b3 := s3.below b2 (Nat.le_refl _) (by omega)
    have hrd3 := hrd.beside s3 hne
    have hs3 := s3.size
    clear hR2 s3 b2 hrd
    go_wp2_with fail
    refine (num_any w3 _ _ 16 hR3 (by omega) (by omega) (by omega)).mono ?_
    rintro e w4 ⟨o4, q4, rfl, hq4, hR4, s4⟩
    have b4 := s4.below b3 (Nat.le_refl _) (by omega)
    have hA : RL w4 pa pc A := hrd3.beside s4 hne
    have H := Hid.mk' (And.intro hA b4)
    clear hR3 hR4 s4 b3 hrd3 hA b4 hne
    go_wp2
    refine bodyPost_ret (results_tmp3 rfl _ _ _) rfl ?_
    exact ⟨_, _, A, _, _, rfl, H.out.1, by omega, H.out.2⟩
end Go.Proofs.Ytnfimnfaejjagaa
