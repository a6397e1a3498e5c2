/-
  An order, a basis and an operator, often one that is made of it, are drawn (spec.DrawGrbIn).
-/
import Derived.Test.YtncffcaabnjioaaGreatGbv
import Derived.Test.YtncffcaabnjioaaGreatGbu
namespace Go.Proofs.YtncffcaabnjioaaGreat
open Go.RowKit Go.Deep Go.Joins
set_option linter.unusedVariables false

def GinD (w : World) (e : Ending) (w' : World) : Prop := ∃ (o : Int) (pa : Option Addr) (pc : Nat) (p : List T) (a : Option Addr) (n c : Nat) (ad : Nat → Option Addr) (cp : Nat → Nat) (L : Nat → List T), e = .returned (.tuple #[.int .i64 o, .slice a n c, .slice pa p.length pc]) ∧ RL w' pa pc p ∧ RdS w' a n c ad (lN L) cp (fN L) ∧ p.length ≤ 400 ∧ n ≤ 12 ∧ Below w.heap.size w w'
set_option maxRecDepth 100000 in
set_option maxHeartbeats 4000000 in
theorem drawGrbIn (w : World) (a : Option Addr) (len cap : Nat) (h : Src w a len cap) :
    Calls Tryz.prog 9 #[.slice a len cap] w (GinD w) := by
  go_enter Tryz.func9, Tryz.ntmps9
  go_wp2_with fail
  refine (open_any _ _ _ _ h).mono ?_
  rintro e w1 ⟨rfl, hR1, b1⟩
  have hl1 := hR1.lt
  clear h
  go_wp2_with fail
  refine (base_any w1 _ _ hR1 (by omega)).mono ?_
  rintro e w2 ⟨o, la, n, lc, lad, lcp, L, q2, rfl, hr2, hn12, hq2, hR2, s2⟩
  have b2 := s2.below b1 (Nat.le_refl _) (by omega)
  have hs2 := s2.size
  have HL2 := Hid.mk' hr2
  clear hR1 s2 b1 hr2
  go_wp2_with fail
  refine (any_any5 w2 _ _ 24 hR2 (by omega) (by omega) (by omega)).mono ?_
  rintro e w3 ⟨pa, m, pc, f, q3, rfl, hrd, hm, hblk, hq3, hR3, s3⟩
  obtain ⟨p, rfl, hrdL⟩ := list_of hrd
  have b3 := s3.below b2 (Nat.le_refl _) (by omega)
  have hne := off_of1 hblk (show w.heap.size < w2.heap.size by omega)
  have hs3 := s3.size
  have HL3 := Hid.mk' (HL2.out.beside s3)
  clear hR2 s3 b2 hblk HL2 hrd
  go_wp2_with fail
  refine (pick_any w3 _ _ 2 hR3 (by omega) (by omega) (by omega)).mono ?_
  rintro e w4 ⟨x, rfl, hx0, hx2, hp4⟩
  have s4 := hp4.beside
  have HB4 := Hid.mk' (s4.below b3 (Nat.le_refl _) (by omega))
  have HP4 : Hid (RL w4 pa pc p) := Rd.beside hrdL s4 hne
  have HL4 := Hid.mk' (HL3.out.beside s4)
  have HR4 := Hid.mk' (hp4.rdr hR3)
  have HNE := Hid.mk' hne
  have hs4 := s4.size
  have hnI : (n : Int) ≤ 12 := by omega
  have hpI : (p.length : Int) ≤ 5 := by omega
  clear s4 hp4 hR3 b3 HL3 hrdL hne
  have hx : x = 0 ∨ x = 1 := by omega
  rcases hx with rfl | rfl
  rotate_left
  · go_wp2
    refine bodyPost_ret (v := .tuple #[.int .i64 o, .slice la n lc, .slice pa p.length pc]) (by simp [results, Tryz.results9, go_sem, *]) rfl ?_
    exact ⟨o, pa, pc, p, la, n, lc, lad, lcp, L, rfl, HP4.out, HL4.out.1, by omega, hn12, HB4.out⟩
  go_wp2_with fail
  refine (lstOkS _ _ _ _ _ _ _ _ HL4.out.1).mono ?_
  obtain ⟨lk, hlk⟩ : ∃ b, lstOk n (lN L) (fN L) = b := ⟨_, rfl⟩
  rw [hlk]
  rintro r w5 ⟨rfl, hb5⟩
  have HB5 := Hid.mk' (bel_next HB4.out hb5)
  have HP5 := Hid.mk' (RL.below HP4.out hb5)
  have HL5 := Hid.mk' (HL4.out.below hb5)
  have HR5 := Hid.mk' (HR4.out.grown (below_grown hb5 none) (fun _ e => by cases e))
  have HLK := Hid.mk' hlk
  have hs5 := hb5.size
  clear hb5 HB4 HP4 HL4 HR4 hlk
  cases lk
  · go_wp2
    refine bodyPost_ret (v := .tuple #[.int .i64 o, .slice la n lc, .slice pa p.length pc]) (by simp [results, Tryz.results9, go_sem, *]) rfl ?_
    exact ⟨o, pa, pc, p, la, n, lc, lad, lcp, L, rfl, HP5.out, HL5.out.1, by omega, hn12, HB5.out⟩
  by_cases hn0 : n = 0
  · have hnz : ¬ (0 : Int) < (n : Int) := by omega
    clear hn0
    go_wp2
    refine bodyPost_ret (v := .tuple #[.int .i64 o, .slice la n lc, .slice pa p.length pc]) (by simp [results, Tryz.results9, go_sem, *]) rfl ?_
    exact ⟨o, pa, pc, p, la, n, lc, lad, lcp, L, rfl, HP5.out, HL5.out.1, by omega, hn12, HB5.out⟩
  have hnz : (0 : Int) < (n : Int) := by omega
  go_wp2_with fail
  refine (okS_L HP5.out).mono ?_
  obtain ⟨pk, hpk⟩ : ∃ b, okL p = b := ⟨_, rfl⟩
  rw [hpk]
  rintro r w6 ⟨rfl, hb6⟩
  have HB6 := Hid.mk' (bel_next HB5.out hb6)
  have HP6 := Hid.mk' (RL.below HP5.out hb6)
  have HL6 := Hid.mk' (HL5.out.below hb6)
  have HR6 := Hid.mk' (HR5.out.grown (below_grown hb6 none) (fun _ e => by cases e))
  have HPK := Hid.mk' hpk
  have hs6 := hb6.size
  clear hb6 HB5 HP5 HL5 HR5 hpk
  cases pk
  · go_wp2
    refine bodyPost_ret (v := .tuple #[.int .i64 o, .slice la n lc, .slice pa p.length pc]) (by simp [results, Tryz.results9, go_sem, *]) rfl ?_
    exact ⟨o, pa, pc, p, la, n, lc, lad, lcp, L, rfl, HP6.out, HL6.out.1, by omega, hn12, HB6.out⟩
  go_wp2_with fail
  refine (pick_any w6 _ _ n HR6.out (by omega) (by omega) (by omega)).mono ?_
  rintro e w7 ⟨y, rfl, hy0, hyn, hp7⟩
  obtain ⟨k, rfl⟩ : ∃ k : Nat, y = (k : Int) := ⟨y.toNat, by omega⟩
  have hk : k < n := by omega
  have s7 := hp7.beside
  have HB7 := Hid.mk' (s7.below HB6.out (Nat.le_refl _) (by omega))
  have HP7 : Hid (RL w7 pa pc p) := Rd.beside HP6.out s7 HNE.out
  have HL7 := Hid.mk' (HL6.out.beside s7)
  obtain ⟨lb, off, rfl, hlb, hcl⟩ := HL7.out.1.2.2.1.resolve_left hn0
  have g0 : w7.cell? ⟨lb, off + k, none⟩ = some (.slice (lad k) (L k).length (lcp k)) := hcl k hk
  have HE7 : Hid (RL w7 (lad k) (lcp k) (L k)) := HL7.out.1.2.2.2 k hk
  have okk : okL (L k) = true := ((lstOk_all HLK.out).2 k hk).2
  have HOK := Hid.mk' okk
  clear s7 hp7 HB6 HP6 HL6 HR6 hcl okk
  go_wp2_with fail
  refine (mulS4 w7 pa (lad k) p.length pc (L k).length (lcp k) (lf p) (lf (L k)) HP7.out HE7.out (okL_falls HPK.out).1 (okL_falls HOK.out).1 (good_ok HPK.out).2 (good_ok HOK.out).2).mono ?_
  obtain ⟨X, xo, hX⟩ : ∃ X b, mulO (mulM (lf p) (lf (L k)) (L k).length p.length) = (X, b) := ⟨_, _, rfl⟩
  have hXl : X.length ≤ 400 := by
    have hw : wmV p (L k) = (X, xo) := by
      unfold wmV wylMul
      rw [if_pos ⟨HPK.out, HOK.out⟩, hX]
    cases xo
    · rcases wmV_case p (L k) with e | ⟨Q, e, _⟩
      · rw [e] at hw; cases hw; simp
      · rw [e] at hw; cases hw
    · exact (okL_falls (wm_ok hw)).1
  rw [hX]
  rintro e w8 ⟨v, rfl, hb8, hv8⟩
  have hv9 : w8.ownsRow w7.heap.size 47 5 v X.length (cellsL X) := hv8
  obtain ⟨xa, xc, rfl, hO8⟩ := out_of_owns hv9 (by omega)
  have HB8 := Hid.mk' (bel_next HB7.out hb8)
  have HP8 := Hid.mk' (RL.below HP7.out hb8)
  have HL8 := Hid.mk' (HL7.out.below hb8)
  have HX8 : Hid (RL w8 xa xc X) := hO8.1
  clear hb8 hv8 hv9 hO8 HB7 HP7 HL7 HE7 g0 hX
  cases xo
  · go_wp2
    refine bodyPost_ret (v := .tuple #[.int .i64 o, .slice (some ⟨lb, off, none⟩) n lc, .slice pa p.length pc]) (by simp [results, Tryz.results9, go_sem, *]) rfl ?_
    exact ⟨o, pa, pc, p, _, n, lc, lad, lcp, L, rfl, HP8.out, HL8.out.1, by omega, hn12, HB8.out⟩
  · go_wp2
    refine bodyPost_ret (v := .tuple #[.int .i64 o, .slice (some ⟨lb, off, none⟩) n lc, .slice xa X.length xc]) (by simp [results, Tryz.results9, go_sem, *]) rfl ?_
    exact ⟨o, xa, xc, X, _, n, lc, lad, lcp, L, rfl, HX8.out, HL8.out.1, hXl, hn12, HB8.out⟩
end Go.Proofs.YtncffcaabnjioaaGreat
