/-
  The walk of FnIdlRest: whatever the code, it comes out true, and nothing that was there is turned.
-/
import Derived.Test.YtbkighpmkadmmaaDrawIr
import Derived.Test.YtbkighpmkadmmaaHbp
import Derived.Test.YtbkighpmkadmmaaHbl
import Derived.Test.YtbkighpmkadmmaaHak
namespace Go.Proofs.Ytbkighpmkadmmaa
open Go.RowKit Go.Deep Go.Joins
set_option linter.unusedVariables false

theorem opL_lf (p : List T) : opL p.length (lf p) = p := by
  refine List.ext_getElem (opL_len _ _) (fun i h1 h2 => ?_)
  have := opL_at (k := p.length) (g := lf p) (i := i) h2
  rw [lf_eq h1, lf_eq h2] at this
  exact this
/-- no term of the first k has anything of the first pair. -/
def noneTo (p : List T) (k : Nat) : Bool := decide (∀ j, j < k → (lf p j).m.x = 0 ∧ (lf p j).m.d = 0)
theorem noneTo_zero (p : List T) : noneTo p 0 = true := decide_eq_true (fun j hj => by omega)
theorem noneTo_step (p : List T) (k : Nat) : noneTo p (k + 1) = (noneTo p k && decide ((lf p k).m.x = 0) && decide ((lf p k).m.d = 0)) := by
  rw [Bool.eq_iff_iff]
  simp only [noneTo, decide_eq_true_eq, Bool.and_eq_true]
  constructor
  · exact fun h => ⟨⟨fun j hj => h j (by omega), (h k (by omega)).1⟩, (h k (by omega)).2⟩
  · rintro ⟨⟨h1, h2⟩, h3⟩ j hj
    by_cases e : j = k
    · rw [e]; exact ⟨h2, h3⟩
    · exact h1 j (by omega)
theorem rgood_all {L : Nat → List T} {i : Nat} (hL : okL (L i) = true) (h0 : (L i).length ≠ 0) : rgood (lN L) (fN L) i = noneTo (L i) (L i).length := by
  rw [Bool.eq_iff_iff]
  have hall := (okL_falls hL).2.2
  have htop := ldL_top (o := 3) ⟨by omega, by omega⟩ hL h0
  simp only [rgood, noneTo, decide_eq_true_eq]
  rw [show ldAt 3 (lN L) (fN L) i = ldL 3 (L i) from rfl]
  constructor
  · intro h j hj
    have hm := lf_mem hj
    have h1 := htop _ hm
    have h2 := M.ok_iff.1 (hall _ hm).1
    have h3 := M.ok_iff.1 (hall _ (ldL_mem (o := 3) h0)).1
    simp only [rkW, rkO, rkL] at h1
    generalize (ldL 3 (L i)).m = A at *
    generalize (lf (L i) j).m = B at *
    simp at h1
    omega
  · intro h
    exact h _ (leadAt_lt (by omega))
theorem rsel_grow {ln : Nat → Nat} {f : Nat → Nat → T} {n j : Nat} (hj : j < n) (hg : rgood ln f j = true) : (rsel ln f j).length < (rsel ln f n).length := by
  have e : rsel ln f (j + 1) = rsel ln f j ++ [j] := if_pos hg
  have hl : ∀ n, j + 1 ≤ n → (rsel ln f (j + 1)).length ≤ (rsel ln f n).length := fun n hn => by
    induction n with
    | zero => omega
    | succ n ihn =>
      by_cases e' : j + 1 = n + 1
      · rw [e']; exact Nat.le_refl _
      · have := ihn (by omega)
        show (rsel ln f (j + 1)).length ≤ (if rgood ln f n = true then rsel ln f n ++ [n] else rsel ln f n).length
        split
        · simp; omega
        · exact this
  have := hl n hj
  rw [e, List.length_append] at this
  simp at this
  omega
set_option maxRecDepth 100000 in
set_option maxHeartbeats 8000000 in
theorem walk_FnIdlRest (w : World) (a0 : Option Addr) (len0 cap0 : Nat) (s0 : Src w a0 len0 cap0) :
    Calls Try.prog 3 #[.slice a0 len0 cap0] w fun e w' => e = .returned (.bool true) ∧ Below w.heap.size w w' := by
  by_cases c0 : (1048576 : Int) < (len0 : Int)
  · go_enter Try.func3, Try.ntmps3
    go_wp2
    go_ret
    exact ⟨rfl, Below.refl _ _⟩
  go_enter Try.func3, Try.ntmps3
  go_wp2_with fail
  refine (drawIdlRest _ _ _ _ s0).mono ?_
  rintro e w1 ⟨a, n, c, ad, cp, L, rfl, hr, hn, b1⟩
  have HR := Hid.mk' hr
  have HB := Hid.mk' b1
  have hnI : (n : Int) ≤ 12 := by omega
  clear s0 hr b1
  go_wp2_with fail
  refine (idlRestI w1 a n c ad (lN L) cp (fN L) HR.out).mono ?_
  rintro e w2 ⟨xa, xc, xad, xcp, xR, xB, rfl, hb2, hO2⟩
  obtain ⟨N, hN⟩ : ∃ N, rN n (lN L) (fN L) = N := ⟨_, rfl⟩
  obtain ⟨Q, hQ⟩ : ∃ Q, rQ n (lN L) (fN L) = Q := ⟨_, rfl⟩
  have hN12 : N ≤ 12 := by
    rw [← hN]
    unfold rN
    split
    · have := (rsel_le (lN L) (fN L) n).1; omega
    · omega
  have hNI : (N : Int) ≤ 12 := by omega
  have hx2 : RdS w2 xa N xc xad (lN Q) xcp (fN Q) := by rw [← hN, ← hQ]; exact hO2.rd
  rw [hN]
  have HX2 := Hid.mk' hx2
  have HB2 := Hid.mk' (bel_next HB.out hb2)
  have HR2 := Hid.mk' (HR.out.below hb2)
  have HN := Hid.mk' hN
  have HQ := Hid.mk' hQ
  clear hb2 hO2 hx2 HR HB hN hQ
  go_wp2_with fail
  refine (idlRestS w2 a n c ad (lN L) cp (fN L) HR2.out).mono ?_
  rintro e w3 ⟨ya, yc, yad, ycp, rfl, hb3, hy3⟩
  rw [HQ.out, HN.out] at hy3
  rw [HN.out]
  have HY3 := Hid.mk' hy3
  have HX3 := Hid.mk' (HX2.out.below hb3)
  have HB3 := Hid.mk' (bel_next HB2.out hb3)
  have HR3 := Hid.mk' (HR2.out.below hb3)
  clear hb3 hy3 HX2 HB2 HR2
  go_wp2_with fail
  refine (heListT w3 xa ya N xc N yc xad yad xcp ycp Q Q HX3.out HY3.out).mono ?_
  rw [lsq_same]
  rintro e w4 ⟨rfl, hb4⟩
  have HX4 := Hid.mk' (HX3.out.below hb4)
  have HB4 := Hid.mk' (bel_next HB3.out hb4)
  have HR4 := Hid.mk' (HR3.out.below hb4)
  clear hb4 HX3 HB3 HR3 HY3
  cases hl : lstOk n (lN L) (fN L)
  · have hN0 : N = 0 := by rw [← HN.out]; exact if_neg (by rw [hl]; simp)
    subst hN0
    go_wp2_with fail
    refine (lstOkS w4 a n c ad (lN L) cp (fN L) HR4.out).mono ?_
    rw [hl]
    rintro e w5 ⟨rfl, hb5⟩
    have HB5 := Hid.mk' (bel_next HB4.out hb5)
    clear hb5
    go_wp2_with fail
    refine (heOk_L w5).mono ?_
    rintro e w6 ⟨rfl, hb6⟩
    have HB6 := Hid.mk' (bel_next HB5.out hb6)
    clear hb6
    go_wp2
    go_ret
    exact ⟨rfl, HB6.out⟩
  · have HNN : Hid (N = (rsel (lN L) (fN L) n).length) := by show N = _; rw [← HN.out]; exact if_pos hl
    have HLO := Hid.mk' (lstOk_all hl).2
    go_wp2_with fail
    refine (lstOkS w4 a n c ad (lN L) cp (fN L) HR4.out).mono ?_
    rw [hl]
    rintro e w5 ⟨rfl, hb5⟩
    have HX5 := Hid.mk' (HX4.out.below hb5)
    have HB5 := Hid.mk' (bel_next HB4.out hb5)
    have HR5 := Hid.mk' (HR4.out.below hb5)
    clear hb5 HX4 HB4 HR4
    go_wp2
    go_loopw [5, 6] (fun nn ii wr => ∃ (i m : Nat), i ≤ n ∧ ii = .int .i64 (i : Int) ∧ nn = .int .i64 (m : Int) ∧ m ≤ 12 ∧ Hid (m = (rsel (lN L) (fN L) i).length) ∧ Below w5.heap.size w5 wr) (fun _ ii _ => n - (intOf ii).toNat)
    case atStart => exact ⟨0, 0, Nat.zero_le _, rfl, rfl, by omega, rfl, Below.refl _ _⟩
    case round =>
      obtain ⟨i, m, hi, rfl, rfl, hm12, HM, hB⟩ := hrel
      have HBr := Hid.mk' hB
      have hmI : (m : Int) ≤ 12 := by omega
      by_cases hlt : i < n
      · have hil : (i : Int) < (n : Int) := by omega
        have hRr := HR5.out.below hB
        rcases hRr.2.2.1 with h0 | ⟨b, off, rfl, hblt, hcl⟩
        · omega
        obtain ⟨l, hlen⟩ : ∃ l, (L i).length = l := ⟨_, rfl⟩
        obtain ⟨hk0, hpk⟩ := HLO.out i hlt
        have hl400 : (l : Int) ≤ 400 := by
          have := (okL_falls (L := L i) hpk).1
          omega
        have g0 : wr.cell? ⟨b, off + i, none⟩ = some (.slice (ad i) l (cp i)) := by rw [← hlen]; exact hcl i hlt
        have hri : Rd wr (ad i) (L i).length (cp i) (lf (L i)) := hRr.2.2.2 i hlt
        have HRI := Hid.mk' hri
        have HLEN := Hid.mk' hlen
        have HG := Hid.mk' (rgood_all (L := L) (i := i) hpk hk0)
        have hskip : rgood (lN L) (fN L) i = false → rsel (lN L) (fN L) (i + 1) = rsel (lN L) (fN L) i := fun hg => if_neg (by rw [hg]; simp)
        have htake : rgood (lN L) (fN L) i = true → rsel (lN L) (fN L) (i + 1) = rsel (lN L) (fN L) i ++ [i] := fun hg => if_pos hg
        have HSK := Hid.mk' hskip
        have HTK := Hid.mk' htake
        obtain ⟨b2, off2, ea, hb2, hc2⟩ := hri.2.2.resolve_left hk0
        rw [hlen] at hc2
        have HC2 := Hid.mk' hc2
        obtain ⟨aI, haI⟩ : ∃ x, ad i = x := ⟨_, rfl⟩
        rw [haI] at g0 ea
        subst ea
        have HAI := Hid.mk' haI
        clear hcl hB hRr hri hlen hpk hk0 hskip htake hc2 haI
        go_wp2
        go_loopw [7, 8] (fun nv kk w' => ∃ (k : Nat), k ≤ l ∧ kk = .int .i64 (k : Int) ∧ nv = .bool (noneTo (L i) k) ∧ w' = wr) (fun _ kk _ => l - (intOf kk).toNat)
        case atStart => exact ⟨0, Nat.zero_le _, rfl, by rw [noneTo_zero], rfl⟩
        case round =>
          obtain ⟨k, hk, rfl, rfl, rfl⟩ := hrel
          by_cases hkl : k < l
          · have hkI : (k : Int) < (l : Int) := by omega
            obtain ⟨t, ht⟩ : ∃ t, lf (L i) k = t := ⟨_, rfl⟩
            have hst := noneTo_step (L i) k
            have hck := HC2.out k hkl
            rw [ht] at hst hck
            obtain ⟨x0, x1, x2, x3, x4⟩ := hck
            have HST := Hid.mk' hst
            clear hst ht
            cases hv : noneTo (L i) k
            · have HV := Hid.mk' hv
              clear hv
              go_wp2
              go_roundw
              case rel => exact ⟨k + 1, by omega, by go_num, by rw [HST.out, HV.out]; rfl, by first | rfl | trivial⟩
              case measure => simp [intOf]; omega
            · have HV := Hid.mk' hv
              clear hv
              by_cases hx : t.m.x = 0
              · have hxb : (t.m.x == 0) = true := by simpa using hx
                by_cases hd : t.m.d = 0
                · have hdb : (t.m.d == 0) = true := by simpa using hd
                  have HE : Hid (noneTo (L i) (k + 1) = true) := by show _ = _; rw [HST.out, HV.out]; simp [hx, hd]
                  go_wp2
                  go_roundw
                  case rel => exact ⟨k + 1, by omega, by go_num, by rw [HE.out], by first | rfl | trivial⟩
                  case measure => simp [intOf]; omega
                · have hdb : (t.m.d == 0) = false := by simpa using hd
                  have HE : Hid (noneTo (L i) (k + 1) = false) := by show _ = _; rw [HST.out, HV.out]; simp [hx, hd]
                  go_wp2
                  go_roundw
                  case rel => exact ⟨k + 1, by omega, by go_num, by rw [HE.out], by first | rfl | trivial⟩
                  case measure => simp [intOf]; omega
              · have hxb : (t.m.x == 0) = false := by simpa using hx
                have HE : Hid (noneTo (L i) (k + 1) = false) := by show _ = _; rw [HST.out, HV.out]; simp [hx]
                go_wp2
                go_roundw
                case rel => exact ⟨k + 1, by omega, by go_num, by rw [HE.out], by first | rfl | trivial⟩
                case measure => simp [intOf]; omega
          · have hkI : ¬ (k : Int) < (l : Int) := by omega
            have hke : k = l := by omega
            subst hke
            have HG2 : Hid (rgood (lN L) (fN L) i = noneTo (L i) k) := by show _ = _; rw [HG.out, HLEN.out]
            cases hv : noneTo (L i) k
            · have HS : Hid (rsel (lN L) (fN L) (i + 1) = rsel (lN L) (fN L) i) := HSK.out (by rw [HG2.out, hv])
              clear hv
              go_wp2
              go_roundw
              case rel => exact ⟨i + 1, m, by omega, by go_num, rfl, hm12, by show _ = _; rw [HS.out]; exact HM.out, HBr.out⟩
              case measure => simp [intOf]; omega
            · have hgi : rgood (lN L) (fN L) i = true := by rw [HG2.out, hv]
              have hlt2 : m < N := by rw [HM.out, HNN.out]; exact rsel_grow hlt hgi
              have hlt2I : (m : Int) < (N : Int) := by omega
              have hge : ¬ (N : Int) ≤ (m : Int) := by omega
              have hge1 : decide (N ≤ m) = false := decide_eq_false (by omega)
              have hge2 : decide ((N : Int) ≤ (m : Int)) = false := decide_eq_false (by omega)
              have hge3 : ¬ N ≤ m := by omega
              have HS : Hid (rsel (lN L) (fN L) (i + 1) = rsel (lN L) (fN L) i ++ [i]) := HTK.out hgi
              have hqi : Q m = L i := by
                rw [← HQ.out, HM.out, rQ_new hlt hgi]
                exact opL_lf (L i)
              have hXr := HX5.out.below HBr.out
              rcases hXr.2.2.1 with h0 | ⟨bx, ox, ex, hbx, hcx⟩
              · omega
              have ne := Ext.there wr
              have gx : wr.cell? ⟨bx, ox + m, none⟩ = some (.slice (xad m) k (xcp m)) := by
                have := hcx m hlt2
                rw [show lN Q m = k by show (Q m).length = k; rw [hqi]; exact HLEN.out] at this
                exact this
              have s0 : ∀ u : Ext wr, u.1.cell? ⟨b, off + i, none⟩ = some (.slice (some ⟨b2, off2, none⟩) k (cp i)) := fun u => (u.cell hblt).trans g0
              have s1 : ∀ u : Ext wr, u.1.cell? ⟨bx, ox + m, none⟩ = some (.slice (xad m) k (xcp m)) := fun u => (u.cell hbx).trans gx
              have hcall : ∀ u : Ext wr, Calls Try.prog 15 #[.slice (xad m) k (xcp m), .slice (some ⟨b2, off2, none⟩) k (cp i)] u.1 fun r w' => r = .returned (.bool true) ∧ Below u.1.heap.size u.1 w' := fun u => by
                have h1 : RL wr (xad m) (xcp m) (L i) := by
                  have := hXr.2.2.2 m hlt2
                  rw [show fN Q m = lf (L i) by show lf (Q m) = _; rw [hqi], show lN Q m = (L i).length by show (Q m).length = _; rw [hqi]] at this
                  exact this
                have h2 : RL wr (ad i) (cp i) (L i) := HRI.out
                rw [HAI.out] at h2
                have := he_L (w := u.1) (a := xad m) (ca := xcp m) (L := L i) (b := some ⟨b2, off2, none⟩) (cb := cp i) (K := L i) (Rd.below h1 u.2) (Rd.below h2 u.2)
                rw [sq_same, HLEN.out] at this
                exact this
              subst ex
              clear hv hgi hXr hcx hqi gx HG2
              go_wp2_with fail
              clear g0
              refine wp_region_ext (by kernel_rfl) (by kernel_rfl) ?_
              repeat (go_big_quiet_step (first | (go_at_call 15; exact ext_grows (hcall _)) | fail))
              refine wpQuiet_nil ?_
              rintro _ ⟨v, rfl⟩
              have HV := Hid.mk' v.2
              clear s0 s1 ne hcall
              go_wp2
              go_roundw
              case rel => exact ⟨i + 1, m + 1, by omega, by go_num, by go_num, by omega, by show _ = _; rw [HS.out, HM.out]; simp, bel_next HBr.out HV.out⟩
              case measure => simp [intOf]; omega
      · have hnl : ¬ (i : Int) < (n : Int) := by omega
        have hie : i = n := by omega
        subst hie
        have hmN : m = N := by rw [HM.out, HNN.out]
        subst hmN
        have hmb : ((m : Int) == (m : Int)) = true := by simp
        clear hB
        go_wp2_with fail
        refine (heOk_L wr).mono ?_
        rintro e w6 ⟨rfl, hb6⟩
        have HB6 := Hid.mk' (bel_next (bel_next HB5.out HBr.out) hb6)
        clear hb6
        go_wp2
        go_ret
        exact ⟨rfl, HB6.out⟩
end Go.Proofs.Ytbkighpmkadmmaa
