/-
  The walk of FnRedSum: whatever the code, it comes out true, and nothing that was there is turned.
-/
import Derived.Test.YtllfgoepfeoclabDrawRS
import Derived.Test.YtllfgoepfeoclabRedSI2
import Derived.Test.YtllfgoepfeoclabGaz
namespace Go.Proofs.Ytllfgoepfeoclab
open Go.RowKit Go.Deep Go.Joins
set_option linter.unusedVariables false

theorem RdS.take {w : World} {a : Option Addr} {n cap : Nat} {ad : Nat → Option Addr} {ln cp : Nat → Nat} {f : Nat → Nat → T} (h : RdS w a n cap ad ln cp f) {k : Nat} (hk : k ≤ n) : RdS w a k cap ad ln cp f :=
  ⟨Nat.le_trans hk h.1, by have := h.2.1; omega, h.2.2.1.elim (fun h0 => .inl (by omega)) (fun ⟨b, off, he, hlt, hc⟩ => .inr ⟨b, off, he, hlt, fun i hi => hc i (by omega)⟩), fun i hi => h.2.2.2 i (by omega)⟩
theorem redSum_I {w : World} {a1 : Option Addr} {n1 c1 : Nat} {ad1 : Nat → Option Addr} {ln1 cp1 : Nat → Nat} {f1 : Nat → Nat → T} (h1 : RdS w a1 n1 c1 ad1 ln1 cp1 f1) {a2 : Option Addr} {n2 c2 : Nat} {ad2 : Nat → Option Addr} {ln2 cp2 : Nat → Nat} {f2 : Nat → Nat → T} (h2 : RdS w a2 n2 c2 ad2 ln2 cp2 f2) : Calls Try.prog 6 #[.slice a1 n1 c1, .slice a2 n2 c2] w (Two2 w (redSum n1 ln1 f1 n2 ln2 f2)) :=
  (redSumI w a1 n1 c1 ad1 ln1 cp1 f1 h1 a2 n2 c2 ad2 ln2 cp2 f2 h2).mono fun _ _ h => two_out h
theorem redSum_len3 {n1 : Nat} {ln1 : Nat → Nat} {f1 : Nat → Nat → T} {n2 : Nat} {ln2 : Nat → Nat} {f2 : Nat → Nat → T} : (redSum n1 ln1 f1 n2 ln2 f2).1.length ≤ 400 := by
  have key : ∀ i, (mulO (sumPr ln1 f1 ln2 f2 i)).1.length ≤ 400 := fun i => by
    cases i with
    | zero => exact Nat.zero_le _
    | succ i =>
      cases h : sumPr ln1 f1 ln2 f2 i with
      | none => rw [sumPr_none h 1]; exact Nat.zero_le _
      | some K =>
        rw [sumPr_step h]
        unfold stepS
        split
        · split
          · exact polAdd_len _ _ _ _
          · exact Nat.zero_le _
        · exact Nat.zero_le _
  unfold redSum
  split
  · exact key _
  · exact Nat.zero_le _
theorem redSum_S {w : World} {a1 : Option Addr} {n1 c1 : Nat} {ad1 : Nat → Option Addr} {ln1 cp1 : Nat → Nat} {f1 : Nat → Nat → T} (h1 : RdS w a1 n1 c1 ad1 ln1 cp1 f1) {a2 : Option Addr} {n2 c2 : Nat} {ad2 : Nat → Option Addr} {ln2 cp2 : Nat → Nat} {f2 : Nat → Nat → T} (h2 : RdS w a2 n2 c2 ad2 ln2 cp2 f2) : Calls Try.prog 7 #[.slice a1 n1 c1, .slice a2 n2 c2] w (Two2 w (redSum n1 ln1 f1 n2 ln2 f2)) :=
  (redSumS w a1 n1 c1 ad1 ln1 cp1 f1 h1 a2 n2 c2 ad2 ln2 cp2 f2 h2).mono fun _ _ h => two_owns redSum_len3 h
/-- the last product. -/
theorem redSum_last {n1 n2 : Nat} {ln1 : Nat → Nat} {f1 : Nat → Nat → T} {ln2 : Nat → Nat} {f2 : Nat → Nat → T} {L : List T} (h : redSum n1 ln1 f1 (n2 + 1) ln2 f2 = (L, true)) :
    n1 = n2 + 1 ∧ ∃ K P, redSum n2 ln1 f1 n2 ln2 f2 = (K, true) ∧ wylMul (f1 n2) (ln1 n2) (f2 n2) (ln2 n2) = (P, true) ∧ addV K P = (L, true) := by
  unfold redSum at h
  by_cases hh : n1 = n2 + 1 ∧ n2 + 1 ≤ 12
  · refine ⟨hh.1, ?_⟩
    rw [if_pos hh] at h
    cases hK : sumPr ln1 f1 ln2 f2 n2 with
    | none => rw [sumPr_none hK 1] at h; simp [mulO] at h
    | some K =>
      rw [sumPr_step hK] at h
      unfold stepS at h
      by_cases h1 : (wylMul (f1 n2) (ln1 n2) (f2 n2) (ln2 n2)).2 = true
      · rw [if_pos h1] at h
        by_cases h2 : (addV K (wylMul (f1 n2) (ln1 n2) (f2 n2) (ln2 n2)).1).2 = true
        · rw [if_pos h2] at h
          refine ⟨K, (wylMul (f1 n2) (ln1 n2) (f2 n2) (ln2 n2)).1, ?_, ?_, ?_⟩
          · unfold redSum; rw [if_pos ⟨rfl, by omega⟩, hK]; rfl
          · exact Prod.ext rfl h1
          · have e : (addV K (wylMul (f1 n2) (ln1 n2) (f2 n2) (ln2 n2)).1).1 = L := by simpa [mulO] using h
            exact Prod.ext e h2
        · rw [if_neg h2] at h; simp [mulO] at h
      · rw [if_neg h1] at h; simp [mulO] at h
  · rw [if_neg hh] at h; cases h
theorem redSum_no {n1 n2 : Nat} {ln1 : Nat → Nat} {f1 : Nat → Nat → T} {ln2 : Nat → Nat} {f2 : Nat → Nat → T} {L : List T} (h : redSum n1 ln1 f1 n2 ln2 f2 = (L, false)) : L.length = 0 := by
  unfold redSum at h
  split at h
  · cases hK : sumPr ln1 f1 ln2 f2 n2 with
    | none => rw [hK] at h; have : [] = L := by simpa [mulO] using h
              rw [← this]; rfl
    | some K => rw [hK] at h; simp [mulO] at h
  · cases h; rfl
theorem redSum_nil {n1 : Nat} {ln1 : Nat → Nat} {f1 : Nat → Nat → T} {ln2 : Nat → Nat} {f2 : Nat → Nat → T} {L : List T} {b : Bool} (h : redSum n1 ln1 f1 0 ln2 f2 = (L, b)) : L.length = 0 := by
  unfold redSum at h
  split at h
  · have : [] = L := by
      have := congrArg Prod.fst h
      exact this
    rw [← this]; rfl
  · cases h; rfl
theorem cut_run (W : World) (p o n c m : Nat) (hc : ¬ c = 0) (hm : m ≤ c) : (Instr.slice 23 (.slice (some ⟨p, o, none⟩) n c) none (some (.int .i64 (m : Int))) none).run Try.prog W = .ok (.slice (some ⟨p, o, none⟩) m c) W := by
  have hz : (Go.sizeOf 26).run Try.prog W = .ok 1 W := by kernel_rfl
  rw [run_slice_h W 23 _ n c (by kernel_rfl) .i64 (m : Int) (by omega) (by omega)]
  rw [show Try.prog.elem 23 = 26 from by kernel_rfl, hz]
  simp [sliced, Result.andThen, hc, Addr.add]
abbrev C2r (p1 o1 p2 o2 : Nat) (v1 v2 : Value) (u : World) : Prop := u.cell? ⟨p1, o1, none⟩ = some v1 ∧ u.cell? ⟨p2, o2, none⟩ = some v2
theorem C2r.below {p1 o1 p2 o2 : Nat} {v1 v2 : Value} {u u' : World} (h : C2r p1 o1 p2 o2 v1 v2 u) (hb : Below u.heap.size u u') : C2r p1 o1 p2 o2 v1 v2 u' :=
  ⟨(hb.cell (p := ⟨p1, o1, none⟩) (World.block_lt_of_cell? u _ h.1)).trans h.1, (hb.cell (p := ⟨p2, o2, none⟩) (World.block_lt_of_cell? u _ h.2)).trans h.2⟩
set_option maxRecDepth 100000 in
set_option maxHeartbeats 4000000 in
theorem walk_FnRedSum (w : World) (a0 : Option Addr) (len0 cap0 : Nat) (s0 : Src w a0 len0 cap0) :
    Calls Try.prog 3 #[.slice a0 len0 cap0] w fun e w' => e = .returned (.bool true) ∧ Below w.heap.size w w' := by
  by_cases c0 : (1048576 : Int) < (len0 : Int)
  · go_enter Try.func3, Try.ntmps3
    go_wp2
    go_ret
    exact ⟨rfl, Below.refl _ _⟩
  go_enter Try.func3, Try.ntmps3
  go_wp2_with fail
  refine (drawRedSum _ _ _ _ s0).mono ?_
  rintro e w1 ⟨a1, n1, c1, ad1, ln1, cp1, f1, a2, n2, c2, ad2, ln2, cp2, f2, rfl, h1, h2, l1, l2, b1⟩
  have R1 := Hid.mk' h1
  have S1 := Hid.mk' h2
  have B1 := Hid.mk' b1
  have hn1 : (n1 : Int) ≤ 6 := by omega
  have hn2 : (n2 : Int) ≤ 5 := by omega
  obtain ⟨L, ok, hL⟩ : ∃ L ok, redSum n1 ln1 f1 n2 ln2 f2 = (L, ok) := ⟨_, _, rfl⟩
  have k1 := fun (W : World) (h : RdS W a1 n1 c1 ad1 ln1 cp1 f1) (h' : RdS W a2 n2 c2 ad2 ln2 cp2 f2) => redSum_I h h'
  have k2 := fun (W : World) (h : RdS W a1 n1 c1 ad1 ln1 cp1 f1) (h' : RdS W a2 n2 c2 ad2 ln2 cp2 f2) => redSum_S h h'
  rw [hL] at k1 k2
  have HL := Hid.mk' hL
  have hkk : (ok != ok) = false := by simp
  clear s0 h1 h2 b1 hL
  go_wp2_with fail
  refine (k1 w1 R1.out S1.out).mono ?_
  rintro e w2 ⟨xa, xc, rfl, b2, hx⟩
  have R2 := Hid.mk' (R1.out.below b2)
  have S2 := Hid.mk' (S1.out.below b2)
  have X2 := Hid.mk' hx
  have B2 := Hid.mk' (bel_next B1.out b2)
  clear b2 hx R1 S1 B1
  go_wp2_with fail
  refine (k2 w2 R2.out S2.out).mono ?_
  rintro e w3 ⟨ya, yc, rfl, b3, hy⟩
  have R3 := Hid.mk' (R2.out.below b3)
  have S3 := Hid.mk' (S2.out.below b3)
  have X3 := Hid.mk' (X2.out.below b3)
  have B3 := Hid.mk' (bel_next B2.out b3)
  have Y3 := Hid.mk' hy
  clear b3 hy R2 S2 X2 B2 k1 k2
  go_wp2_with fail
  refine (he_L X3.out Y3.out).mono ?_
  rw [sq_same]
  rintro e w4 ⟨rfl, b4⟩
  have R4 := Hid.mk' (R3.out.below b4)
  have S4 := Hid.mk' (S3.out.below b4)
  have X4 := Hid.mk' (X3.out.below b4)
  have B4 := Hid.mk' (bel_next B3.out b4)
  clear b4 R3 S3 X3 B3 Y3
  cases ok
  · have e1 := redSum_no HL.out
    have hl0 : ((L.length : Int) == 0) = true := by simp [e1]
    clear e1
    go_wp2_with fail
    refine (heOkT _).mono ?_
    rintro e wz ⟨rfl, bzz⟩
    have HBZ := Hid.mk' (bel_next B4.out bzz)
    clear bzz
    go_wp2
    go_ret
    exact ⟨rfl, HBZ.out⟩
  by_cases hz : n2 = 0
  · subst hz
    have e1 := redSum_nil HL.out
    have hl0 : ((L.length : Int) == 0) = true := by simp [e1]
    clear e1
    go_wp2_with fail
    refine (heOkT _).mono ?_
    rintro e wz ⟨rfl, bzz⟩
    have HBZ := Hid.mk' (bel_next B4.out bzz)
    clear bzz
    go_wp2
    go_ret
    exact ⟨rfl, HBZ.out⟩
  obtain ⟨m, hm⟩ : ∃ m, n2 = m + 1 := ⟨n2 - 1, by omega⟩
  obtain ⟨hn12, K, P, hK, hP, hA⟩ := redSum_last (by rw [← hm]; exact HL.out)
  obtain rfl : n1 = n2 := by omega
  have hz0 : ((n1 : Int) == 0) = false := by simp; omega
  have hm1 : (n1 : Int) - 1 = (m : Int) := by omega
  have hm0 : (0 : Int) ≤ (m : Int) := by omega
  have hmn : (m : Int) < (n1 : Int) := by omega
  have hml : m < n1 := by omega
  have R4c := R4.out
  have S4c := S4.out
  have k1 := fun (W : World) (h : RdS W a1 m c1 ad1 ln1 cp1 f1) (h' : RdS W a2 m c2 ad2 ln2 cp2 f2) => redSum_I h h'
  rw [hK] at k1
  have k2 := fun (W : World) (h : Rd W (ad1 m) (ln1 m) (cp1 m) (f1 m)) (h' : Rd W (ad2 m) (ln2 m) (cp2 m) (f2 m)) => (wylMulI W _ _ _ _ _ _ (f1 m) (f2 m) h h').mono fun _ _ h => two_out h
  rw [hP] at k2
  have hmc1 : (m : Int) ≤ (c1 : Int) := by have := R4c.1; omega
  have hmc2 : (m : Int) ≤ (c2 : Int) := by have := S4c.1; omega
  have hnc1 : (n1 : Int) ≤ (c1 : Int) := by have := R4c.1; omega
  have hnc2 : (n1 : Int) ≤ (c2 : Int) := by have := S4c.1; omega
  have hcn1 : ¬ c1 = 0 := by omega
  have hcn2 : ¬ c2 = 0 := by omega
  have hw1 : IntKind.i64.wrap ((n1 : Int) - 1) = (m : Int) := by rw [IntKind.wrap_i64] <;> omega
  have hw2 : IntKind.i64.wrap (m : Int) = (m : Int) := by rw [IntKind.wrap_i64] <;> omega
  rcases R4c.2.2.1 with h0 | ⟨p1, o1, rfl, hlt1, hc1⟩
  · omega
  rcases S4c.2.2.1 with h0 | ⟨p2, o2, rfl, hlt2, hc2⟩
  · omega
  have hsl1 : ∀ W : World, (Instr.slice 23 (.slice (some ⟨p1, o1, none⟩) n1 c1) none (some (.int .i64 (m : Int))) none).run Try.prog W = .ok (.slice (some ⟨p1, o1, none⟩) m c1) W := fun W => cut_run W p1 o1 n1 c1 m hcn1 (by omega)
  have hsl2 : ∀ W : World, (Instr.slice 23 (.slice (some ⟨p2, o2, none⟩) n1 c2) none (some (.int .i64 (m : Int))) none).run Try.prog W = .ok (.slice (some ⟨p2, o2, none⟩) m c2) W := fun W => cut_run W p2 o2 n1 c2 m hcn2 (by omega)
  have dr4 : Below w4.heap.size w4 w4.drew := (Below.refl _ _).drew
  have hS4 : C2r p1 (o1 + m) p2 (o2 + m) (.slice (ad1 m) (ln1 m) (cp1 m)) (.slice (ad2 m) (ln2 m) (cp2 m)) w4.drew := ⟨(dr4.cell (p := ⟨p1, o1 + m, none⟩) hlt1).trans (hc1 m hml), (dr4.cell (p := ⟨p2, o2 + m, none⟩) hlt2).trans (hc2 m hml)⟩
  have R4m := Hid.mk' ((R4c.take (k := m) (by omega)).below dr4)
  have S4m := Hid.mk' ((S4c.take (k := m) (by omega)).below dr4)
  have R4e := Hid.mk' ((R4c.2.2.2 m hml).below dr4)
  have S4e := Hid.mk' ((S4c.2.2.2 m hml).below dr4)
  have X4d := Hid.mk' (X4.out.below dr4)
  have B4d := Hid.mk' (bel_next B4.out dr4)
  have HA := Hid.mk' hA
  have HS4 := Hid.mk' hS4
  clear R4c S4c hc1 hc2 hlt1 hlt2 dr4 R4 S4 X4 B4 hK hP hA HL hS4 hz hm hn12
  go_wp2_with fail
  have hS := HS4.out
  go_region_held3 (fun u => u.cell? ⟨p1, o1 + m, none⟩ = some (.slice (ad1 m) (ln1 m) (cp1 m)) ∧ u.cell? ⟨p2, o2 + m, none⟩ = some (.slice (ad2 m) (ln2 m) (cp2 m))) (first | with_reducible exact hS | with_reducible exact C2r.below hS b5) (first | (go_at_call 6; refine (k1 _ R4m.out S4m.out).mono ?_; rintro e w5 ⟨za, zc, rfl, b5, hz⟩))
  have dr5 : Below w5.heap.size w5 w5.drew := (Below.refl _ _).drew
  have hS5 := (C2r.below hS b5).below dr5
  have R5e := Hid.mk' ((R4e.out.below b5).below dr5)
  have S5e := Hid.mk' ((S4e.out.below b5).below dr5)
  have X5d := Hid.mk' ((X4d.out.below b5).below dr5)
  have Z5d := Hid.mk' (hz.below dr5)
  have B5d := Hid.mk' (bel_next (bel_next B4d.out b5) dr5)
  have HS5 := Hid.mk' hS5
  clear hS hS5 HS4 R4m S4m R4e S4e X4d B4d b5 hz dr5 k1
  go_wp2_with fail
  have hS := HS5.out
  go_region_held3 (fun u => u.cell? ⟨p1, o1 + m, none⟩ = some (.slice (ad1 m) (ln1 m) (cp1 m)) ∧ u.cell? ⟨p2, o2 + m, none⟩ = some (.slice (ad2 m) (ln2 m) (cp2 m))) (first | with_reducible exact hS | with_reducible exact C2r.below hS b6) (first | (go_at_call 10; refine (k2 _ R5e.out S5e.out).mono ?_; rintro e w6 ⟨qa, qc, rfl, b6, hq⟩))
  have X6 := Hid.mk' (X5d.out.below b6)
  have Z6 := Hid.mk' (Z5d.out.below b6)
  have Q6 := Hid.mk' hq
  have B6 := Hid.mk' (bel_next B5d.out b6)
  have k3 := addI_L Z6.out Q6.out
  rw [HA.out] at k3
  have K3 := Hid.mk' k3
  clear hS HS5 R5e S5e X5d Z5d B5d b6 hq k2 k3
  go_wp2_with fail
  refine K3.out.mono ?_
  rintro e w7 ⟨ra, rc, rfl, b7, hr⟩
  have X7 := Hid.mk' (X6.out.below b7)
  have R7 := Hid.mk' hr
  have B7 := Hid.mk' (bel_next B6.out b7)
  clear X6 Z6 Q6 B6 b7 hr K3
  go_wp2_with fail
  refine (he_L R7.out X7.out).mono ?_
  rw [sq_same]
  rintro e w8 ⟨rfl, b8⟩
  have B8 := Hid.mk' (bel_next B7.out b8)
  clear b8 X7 R7 B7
  go_wp2
  go_ret
  exact ⟨rfl, B8.out⟩
end Go.Proofs.Ytllfgoepfeoclab
