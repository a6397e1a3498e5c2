/-
  FnExactRedSum: at every argument the program answers as its model; it writes into no argument, and its answer owns its memory.
-/
import Derived.Test.YtpfgelfmhhnbaaaRedSI2
import Derived.Test.YtpfgelfmhhnbaaaMarkL
import Derived.Test.YtpfgelfmhhnbaaaLOpen
import Derived.ProofKit
import Derived.OpenShut
import Derived.Deep.RegionHeld3
import Derived.Deep.Light
namespace Go.Proofs.Ytpfgelfmhhnbaaa.fnExactRedSum
open Go.ChangeShapes Go.WideShapes Go.ChangeAt Go.RowKit Go.Deep Go.Joins
set_option linter.unusedVariables false

theorem apart_rd {lo hi : Nat} {w w' : World} {a : Option Addr} {n cap : Nat} {f : Nat → T} (h : Rd w a n cap f) (hA : Apart lo hi w w') (hb : n = 0 ∨ ∀ b off, a = some ⟨b, off, none⟩ → b < lo ∨ hi ≤ b) : Rd w' a n cap f := by
  obtain ⟨h1, h2, h3⟩ := h
  refine ⟨h1, h2, ?_⟩
  rcases h3 with h0 | ⟨b, off, rfl, hlt, hc⟩
  · exact .inl h0
  · rcases hb with h0 | hb
    · exact .inl h0
    · exact .inr ⟨b, off, rfl, by rw [hA.size]; exact hlt, fun i hi => (hc i hi).same (hA.block b hlt (hb b off rfl))⟩
theorem apart_wr {lo hi : Nat} {w w' : World} {a : Option Addr} {n : Nat} {f : Nat → T} (h : Wr w a n f) (hA : Apart lo hi w w') (hb : n = 0 ∨ ∀ b off, a = some ⟨b, off, none⟩ → b < lo ∨ hi ≤ b) : Wr w' a n f := by
  rcases h with h0 | ⟨g, off, N, F, rfl, hR, hN, hF⟩
  · exact .inl h0
  · rcases hb with h0 | hb
    · exact .inl h0
    · exact .inr ⟨g, off, N, F, rfl, hR.of_block (hA.block g hR.lt (hb g off rfl)), hN, hF⟩
theorem apart_below {lo hi : Nat} {v w w' : World} (h : Below v.heap.size v w) (hA : Apart lo hi w w') (hn : v.heap.size ≤ lo) : Below v.heap.size v w' :=
  ⟨hA.os.trans h.os, hA.tape.trans h.tape, hA.output.trans h.output, by rw [hA.size]; exact h.size, fun k hk => (hA.block k (Nat.lt_of_lt_of_le hk h.size) (.inl (Nat.lt_of_lt_of_le hk hn))).trans (h.block k hk)⟩
theorem redSum_len {n1 : Nat} {ln1 : Nat → Nat} {f1 : Nat → Nat → T} {n2 : Nat} {ln2 : Nat → Nat} {f2 : Nat → Nat → T} : (redSum n1 ln1 f1 n2 ln2 f2).1.length ≤ 400 := by
  have key : ∀ i, (mulO (sumPr ln1 f1 ln2 f2 i)).1.length ≤ 400 := fun i => by
    cases i with
    | zero => exact Nat.zero_le _
    | succ i =>
      cases h : sumPr ln1 f1 ln2 f2 i with
      | none => rw [sumPr_none h 1]; exact Nat.zero_le _
      | some K =>
        rw [sumPr_step h]
        unfold stepS
        split
        · split
          · exact polAdd_len _ _ _ _
          · exact Nat.zero_le _
        · exact Nat.zero_le _
  unfold redSum
  split
  · exact key _
  · exact Nat.zero_le _
/-- a copy of lists. -/
def Cp (w : World) (g n hi : Nat) (B ln : Nat → Nat) (f : Nat → Nat → T) : Prop := w.rowIs g 32 n (partS B ln n) ∧ ∀ i, i < n → g < B i ∧ B i < hi ∧ Own w (B i) (ln i) (f i)
theorem Cp.below {w w' : World} {g n hi : Nat} {B ln : Nat → Nat} {f : Nat → Nat → T} (h : Cp w g n hi B ln f) (hb : Below w.heap.size w w') : Cp w' g n hi B ln f :=
  ⟨h.1.of_block (hb.block g h.1.lt), fun i hi => ⟨(h.2 i hi).1, (h.2 i hi).2.1, (h.2 i hi).2.2.below hb (h.2 i hi).2.2.lt⟩⟩
theorem Cp.apart {w w' : World} {g n hi : Nat} {B ln : Nat → Nat} {f : Nat → Nat → T} {lo hi' : Nat} (h : Cp w g n hi B ln f) (hA : Apart lo hi' w w') (hg : hi' ≤ g) : Cp w' g n hi B ln f :=
  ⟨h.1.of_block (hA.block g h.1.lt (.inr hg)), fun i hi => ⟨(h.2 i hi).1, (h.2 i hi).2.1, (h.2 i hi).2.2.of_block (hA.block (B i) (h.2 i hi).2.2.lt (.inr (by have := (h.2 i hi).1; omega)))⟩⟩
set_option maxRecDepth 100000 in
set_option maxHeartbeats 16000000 in
theorem walk (a0 : Option Addr) (n0 c0 : Nat) (ad0 : Nat → Option Addr) (ln0 cp0 : Nat → Nat) (f0 : Nat → Nat → T) (a1 : Option Addr) (n1 c1 : Nat) (ad1 : Nat → Option Addr) (ln1 cp1 : Nat → Nat) (f1 : Nat → Nat → T) (w : World) (h0 : IsLists w a0 n0 c0 ad0 ln0 cp0 f0) (h1 : IsLists w a1 n1 c1 ad1 ln1 cp1 f1) : Calls Try.prog 5 #[.slice a0 n0 c0, .slice a1 n1 c1] w fun e w' => e = .returned (.bool true) ∧ Below w.heap.size w w' := by
  have q0 : (n0 : Int) ≤ 9223372036854775807 := by have := h0.1; have := h0.2.1; unfold maxLen at this; omega
  have q1 : (n1 : Int) ≤ 9223372036854775807 := by have := h1.1; have := h1.2.1; unfold maxLen at this; omega
  have q2 : ∀ i, i < n0 → (ln0 i : Int) ≤ 9223372036854775807 := fun i hi => by have h := h0.2.2.2 i hi; have := h.1; have := h.2.1; unfold maxLen at this; omega
  have q3 : ∀ i, i < n1 → (ln1 i : Int) ≤ 9223372036854775807 := fun i hi => by have h := h1.2.2.2 i hi; have := h.1; have := h.2.1; unfold maxLen at this; omega
  have H0 := Hid.mk' h0
  have H1 := Hid.mk' h1
  have Q2 := Hid.mk' q2
  have Q3 := Hid.mk' q3
  clear h0 h1 q2 q3
  go_enter Try.func5, Try.ntmps5
  go_wp2_with fail
  refine (szLists a0 n0 c0 ad0 ln0 cp0 1048576 w q0 (by omega) (by omega) H0.out.2.2.1 Q2.out).mono ?_
  rintro e w' ⟨z, rfl, hw', hz1, hz⟩
  obtain rfl := hw'.symm
  clear hw' Q2
  by_cases hneg : z < 0
  · go_wp2
    go_ret
    exact ⟨rfl, Below.refl _ _⟩
  have hb0 := hz (by omega)
  have hz0 : 0 ≤ z := by omega
  have HBD0 := Hid.mk' hb0
  clear hz hb0
  go_wp2_with fail
  refine (szLists a1 n1 c1 ad1 ln1 cp1 z w q1 hz0 hz1 H1.out.2.2.1 Q3.out).mono ?_
  rintro e w' ⟨y, rfl, hw', hy1, hy⟩
  obtain rfl := hw'.symm
  clear hw' Q3
  by_cases hneg2 : y < 0
  · go_wp2
    go_ret
    exact ⟨rfl, Below.refl _ _⟩
  have hb1 := hy (by omega)
  have m0 : n0 ≤ 1048576 := by have := HBD0.out.1; omega
  have m1 : n1 ≤ 1048576 := by have := hb1.1; omega
  have M0 : Hid (∀ i, i < n0 → ln0 i ≤ 1048576) := fun i hi => by have := HBD0.out.2 i hi; omega
  have M1 : Hid (∀ i, i < n1 → ln1 i ≤ 1048576) := fun i hi => by have := hb1.2 i hi; omega
  have k0 : n0 * 40 ≤ 140737488351232 := by omega
  have k1 : n1 * 40 ≤ 140737488351232 := by omega
  have K0 : Hid (∀ i, i < n0 → ln0 i * 40 ≤ 140737488351232) := fun i hi => by have := M0.out i hi; omega
  have K1 : Hid (∀ i, i < n1 → ln1 i * 40 ≤ 140737488351232) := fun i hi => by have := M1.out i hi; omega
  have R0 := Hid.mk' (H0.out.rd k0 K0.out)
  have R1 := Hid.mk' (H1.out.rd k1 K1.out)
  clear hy hb1 H0 H1 HBD0
  obtain ⟨L, ok, hL⟩ : ∃ L ok, redSum n0 ln0 f0 n1 ln1 f1 = (L, ok) := ⟨_, _, rfl⟩
  have HLe := Hid.mk' hL
  have hne : (ok != ok) = false := by simp
  have lenL : L.length ≤ 400 := by
    have : (redSum n0 ln0 f0 n1 ln1 f1).1.length ≤ 400 := redSum_len
    rw [hL] at this; exact this
  clear hL
  go_wp2_with fail
  refine (toLists _ _ _ _ _ _ _ _ R0.out).mono ?_
  rintro e wa ⟨Ba, rfl, hb, hr, ho⟩
  have La := Hid.mk' (lists_rd hr (fun i hi => (ho i hi).2) k0 K0.out)
  have BBa := Hid.mk' hb
  clear hb hr ho
  go_wp2_with fail
  refine (toLists _ _ _ _ _ _ _ _ (R1.out.below BBa.out)).mono ?_
  rintro e wb ⟨Bb, rfl, hb, hr, ho⟩
  have Lb := Hid.mk' (lists_rd hr (fun i hi => (ho i hi).2) k1 K1.out)
  have La2 := Hid.mk' (La.out.below hb)
  have BBb := Hid.mk' (bel_next BBa.out hb)
  clear hb hr ho La BBa
  go_wp2_with fail
  refine (redSumS _ _ _ _ _ _ _ _ La2.out _ _ _ _ _ _ _ Lb.out).mono ?_
  rw [HLe.out]
  rintro e wc ⟨vs, rfl, hb, hown⟩
  have BBc := Hid.mk' (bel_next BBb.out hb)
  obtain ⟨asp, csp, rfl, hout⟩ := out_of_owns hown (by show L.length * 40 ≤ _; omega)
  have Sc := Hid.mk' hout.1
  have US := Hid.mk' hout.1.under
  clear hb hown hout La2 Lb BBb
  go_wp2_with fail
  refine (toLists2 _ _ _ _ _ _ _ _ (R0.out.below BBc.out)).mono ?_
  rintro e wd ⟨B, rfl, hb, hr, ho, hD⟩
  have Xd : Hid (Cp wd wc.heap.size n0 wd.heap.size B ln0 f0) := ⟨hr, fun i hi => ⟨(ho i hi).1, (ho i hi).2.lt, (ho i hi).2⟩⟩
  have DB := Hid.mk' hD
  have BBd := Hid.mk' (bel_next BBc.out hb)
  have Sd := Hid.mk' (Sc.out.below hb)
  have zd := Hid.mk' hb.size
  clear hb hr ho hD Sc
  go_wp2_with fail
  refine (toLists2 _ _ _ _ _ _ _ _ (R1.out.below BBd.out)).mono ?_
  rintro e we ⟨C, rfl, hb, hr, ho, hD⟩
  have Ye : Hid (Cp we wd.heap.size n1 we.heap.size C ln1 f1) := ⟨hr, fun i hi => ⟨(ho i hi).1, (ho i hi).2.lt, (ho i hi).2⟩⟩
  have DC := Hid.mk' hD
  have Xe := Hid.mk' (Xd.out.below hb)
  have BBe := Hid.mk' (bel_next BBd.out hb)
  have Se := Hid.mk' (Sd.out.below hb)
  have ze := Hid.mk' hb.size
  clear hb hr ho hD Sd Xd
  go_wp2_with fail
  refine (redSumI _ _ _ _ _ _ _ _ (lists_rd Xe.out.1 (fun i hi => (Xe.out.2 i hi).2.2) k0 K0.out) _ _ _ _ _ _ _ (lists_rd Ye.out.1 (fun i hi => (Ye.out.2 i hi).2.2) k1 K1.out)).mono ?_
  rw [HLe.out]
  rintro e wf ⟨ag, cg, rfl, hb, hout⟩
  have FG := Hid.mk' hout.from
  have Gf := Hid.mk' (And.intro hout.1 hout.2.1)
  have Xf := Hid.mk' (Xe.out.below hb)
  have Yf := Hid.mk' (Ye.out.below hb)
  have BBf := Hid.mk' (bel_next BBe.out hb)
  have Sf := Hid.mk' (Se.out.below hb)
  clear hb hout Se Xe Ye
  go_wp2_with fail
  refine (eqTerms _ _ _ _ _ _ _ _ _ Gf.out.1 Sf.out).mono ?_
  rw [termsEq_same]
  rintro e wg ⟨rfl, hb⟩
  have Gg := Hid.mk' (And.intro (Gf.out.1.below hb) (Gf.out.2.below hb))
  have Sg := Hid.mk' (Sf.out.below hb)
  have Xg := Hid.mk' (Xf.out.below hb)
  have Yg := Hid.mk' (Yf.out.below hb)
  have BBg := Hid.mk' (bel_next BBf.out hb)
  clear hb Gf Sf Xf Yf
  go_wp2_with fail
  refine (toLists _ _ _ _ _ _ _ _ (R0.out.below BBg.out)).mono ?_
  rintro e wh ⟨Bh, rfl, hb, hr, ho⟩
  have Lh := Hid.mk' (lists_rd hr (fun i hi => (ho i hi).2) k0 K0.out)
  clear hr ho
  have Gh := Hid.mk' (And.intro (Gg.out.1.below hb) (Gg.out.2.below hb))
  have Sh := Hid.mk' (Sg.out.below hb)
  have Xh := Hid.mk' (Xg.out.below hb)
  have Yh := Hid.mk' (Yg.out.below hb)
  have BBh := Hid.mk' (bel_next BBg.out hb)
  clear hb Gg Sg Xg Yg
  go_wp2_with fail
  refine (eqLists _ _ _ _ _ _ _ _ _ _ _ _ (lists_rd Xh.out.1 (fun i hi => (Xh.out.2 i hi).2.2) k0 K0.out) Lh.out).mono ?_
  rintro e wi ⟨rfl, hb⟩
  clear Lh
  have Gi := Hid.mk' (And.intro (Gh.out.1.below hb) (Gh.out.2.below hb))
  have Si := Hid.mk' (Sh.out.below hb)
  have Xi := Hid.mk' (Xh.out.below hb)
  have Yi := Hid.mk' (Yh.out.below hb)
  have BBi := Hid.mk' (bel_next BBh.out hb)
  clear hb Gh Sh Xh Yh
  go_wp2_with fail
  refine (toLists _ _ _ _ _ _ _ _ (R1.out.below BBi.out)).mono ?_
  rintro e wj ⟨Bj, rfl, hb, hr, ho⟩
  have Lj := Hid.mk' (lists_rd hr (fun i hi => (ho i hi).2) k1 K1.out)
  clear hr ho
  have Gj := Hid.mk' (And.intro (Gi.out.1.below hb) (Gi.out.2.below hb))
  have Sj := Hid.mk' (Si.out.below hb)
  have Xj := Hid.mk' (Xi.out.below hb)
  have Yj := Hid.mk' (Yi.out.below hb)
  have BBj := Hid.mk' (bel_next BBi.out hb)
  clear hb Gi Si Xi Yi
  go_wp2_with fail
  refine (eqLists _ _ _ _ _ _ _ _ _ _ _ _ (lists_rd Yj.out.1 (fun i hi => (Yj.out.2 i hi).2.2) k1 K1.out) Lj.out).mono ?_
  rintro e wk ⟨rfl, hb⟩
  clear Lj
  have Gk := Hid.mk' (And.intro (Gj.out.1.below hb) (Gj.out.2.below hb))
  have Sk := Hid.mk' (Sj.out.below hb)
  have Xk := Hid.mk' (Xj.out.below hb)
  have Yk := Hid.mk' (Yj.out.below hb)
  have BBk := Hid.mk' (bel_next BBj.out hb)
  clear hb Gj Sj Xj Yj
  have OS : Hid (∀ lo, wc.heap.size ≤ lo → L.length = 0 ∨ ∀ b off, asp = some ⟨b, off, none⟩ → b < lo ∨ we.heap.size ≤ b) := fun lo hlo => by
    rcases US.out with h | h
    · exact .inl h
    · exact .inr fun b off e => .inl (by have := h b off e; omega)
  have OS' : Hid (∀ lo hi, wc.heap.size ≤ lo → L.length = 0 ∨ ∀ b off, asp = some ⟨b, off, none⟩ → b < lo ∨ hi ≤ b) := fun lo hi hlo => by
    rcases US.out with h | h
    · exact .inl h
    · exact .inr fun b off e => .inl (by have := h b off e; omega)
  have OG : Hid (∀ lo hi, hi ≤ we.heap.size → L.length = 0 ∨ ∀ b off, ag = some ⟨b, off, none⟩ → b < lo ∨ hi ≤ b) := fun lo hi hhi => by
    rcases FG.out with h | h
    · exact .inl h
    · exact .inr fun b off e => .inr (by have := h b off e; omega)
  have hwc : w.heap.size ≤ wc.heap.size := BBc.out.size
  have hcd : wc.heap.size ≤ wd.heap.size := zd.out
  have hde : wd.heap.size ≤ we.heap.size := ze.out
  go_wp2_with fail
  refine (markLists _ _ _ wd.heap.size B ln0 f0 1 Xk.out.1 Xk.out.2 DB.out m0 M0.out (by omega) (by omega)).mono ?_
  rintro e wl ⟨x1, rfl, x10, x11, hA⟩
  have Gl := Hid.mk' (And.intro (apart_rd Gk.out.1 hA (OG.out _ _ hde)) (apart_wr Gk.out.2 hA (OG.out _ _ hde)))
  have Sl := Hid.mk' (apart_rd Sk.out hA (OS'.out _ _ (Nat.le_succ _)))
  have Yl := Hid.mk' (Yk.out.apart hA (Nat.le_refl _))
  have BBl := Hid.mk' (apart_below BBk.out hA (by omega))
  clear hA Gk Sk Yk Xk
  go_wp2_with fail
  refine (markLists _ _ _ we.heap.size C ln1 f1 x1 Yl.out.1 Yl.out.2 DC.out m1 M1.out x10 (by omega)).mono ?_
  rintro e wm ⟨x2, rfl, x20, x21, hA⟩
  have Gm := Hid.mk' (And.intro (apart_rd Gl.out.1 hA (OG.out _ _ (Nat.le_refl _))) (apart_wr Gl.out.2 hA (OG.out _ _ (Nat.le_refl _))))
  have Sm := Hid.mk' (apart_rd Sl.out hA (OS'.out _ _ (by omega)))
  have BBm := Hid.mk' (apart_below BBl.out hA (by omega))
  clear hA Gl Sl Yl
  have dk : decide (x2 < 0) = false := decide_eq_false (by omega)
  have dk' : ¬ x2 < 0 := by omega
  go_wp2_with fail
  refine (eqTerms _ _ _ _ _ _ _ _ _ Gm.out.1 Sm.out).mono ?_
  rw [termsEq_same]
  rintro e wn ⟨rfl, hb⟩
  have Gn := Hid.mk' (And.intro (Gm.out.1.below hb) (Gm.out.2.below hb))
  have Sn := Hid.mk' (Sm.out.below hb)
  have BBn := Hid.mk' (bel_next BBm.out hb)
  clear hb Gm Sm
  go_wp2_with fail
  refine (markTerms _ _ _ _ _ 1 Gn.out.2 (by omega) (by omega) (by omega)).mono ?_
  rintro e wo ⟨rfl, hg, hz, hw, hsame⟩
  have BBo : Hid (Below w.heap.size w wo) := by
    by_cases hl : L.length = 0
    · rw [hsame hl]; exact BBn.out
    · refine bel_grown BBn.out hg (fun k e => ?_)
      rcases FG.out with h | h
      · exact absurd h hl
      · rcases Gn.out.2 with h' | ⟨g, off, _, _, rfl, _⟩
        · exact absurd h' hl
        · cases e
          exact Nat.le_trans (show w.heap.size ≤ we.heap.size by omega) (h g off rfl)
  have So : Hid (Rd wo asp L.length csp (lf L)) := by
    by_cases hl : L.length = 0
    · rw [hsame hl]; exact Sn.out
    · refine Sn.out.grown hg (.inr fun b off e => ?_)
      rcases US.out with h | h
      · exact absurd h hl
      · rcases FG.out with h' | h'
        · exact absurd h' hl
        · rcases Gn.out.2 with h2 | ⟨g, off2, _, _, rfl, _⟩
          · exact absurd h2 hl
          · intro ee
            have e1 := h b off e
            have e2 : we.heap.size ≤ g := h' g off2 rfl
            have e3 : b = g := by simpa using ee
            have e4 : b < wc.heap.size := e1
            omega
  have Ho : Hid (Rd wo ag L.length cg (mk 1)) := hw.rd Gn.out.1.1 (by omega)
  clear hg hz hw hsame Gn Sn
  have kq : decide ((1 : Int) + 5 * (L.length : Int) < 0) = false := decide_eq_false (by omega)
  go_wp2_with fail
  refine (heldTerms _ _ _ _ 1 Ho.out (by omega) (by omega)).mono ?_
  rintro e w' ⟨rfl, hw'⟩
  obtain rfl := hw'.symm
  clear hw'
  go_wp2_with fail
  refine (toLists _ _ _ _ _ _ _ _ (R0.out.below BBo.out)).mono ?_
  rintro e wp ⟨Bp, rfl, hb, hr, ho⟩
  have Lp := Hid.mk' (lists_rd hr (fun i hi => (ho i hi).2) k0 K0.out)
  have Hp := Hid.mk' (Ho.out.below hb)
  have Sp := Hid.mk' (So.out.below hb)
  have BBp := Hid.mk' (bel_next BBo.out hb)
  clear hb hr ho Ho So
  go_wp2_with fail
  refine (toLists _ _ _ _ _ _ _ _ (R1.out.below BBp.out)).mono ?_
  rintro e wq ⟨Bq, rfl, hb, hr, ho⟩
  have Lq := Hid.mk' (lists_rd hr (fun i hi => (ho i hi).2) k1 K1.out)
  have Lp2 := Hid.mk' (Lp.out.below hb)
  have Hq := Hid.mk' (Hp.out.below hb)
  have Sq := Hid.mk' (Sp.out.below hb)
  have BBq := Hid.mk' (bel_next BBp.out hb)
  clear hb hr ho Hp Sp Lp
  go_wp2_with fail
  refine (redSumI _ _ _ _ _ _ _ _ Lp2.out _ _ _ _ _ _ _ Lq.out).mono ?_
  rw [HLe.out]
  rintro e wr ⟨ah, ch, rfl, hb, hout⟩
  have Ar := Hid.mk' hout.1
  have Hr := Hid.mk' (Hq.out.below hb)
  have Sr := Hid.mk' (Sq.out.below hb)
  have BBr := Hid.mk' (bel_next BBq.out hb)
  clear hb hout Hq Sq Lp2 Lq
  go_wp2_with fail
  refine (eqTerms _ _ _ _ _ _ _ _ _ Ar.out Sr.out).mono ?_
  rw [termsEq_same]
  rintro e ws ⟨rfl, hb⟩
  have Hs := Hid.mk' (Hr.out.below hb)
  have BBs := Hid.mk' (bel_next BBr.out hb)
  clear hb Hr Sr Ar
  go_wp2_with fail
  refine (heldTerms _ _ _ _ 1 Hs.out (by omega) (by omega)).mono ?_
  rintro e w' ⟨rfl, hw'⟩
  obtain rfl := hw'.symm
  clear hw'
  go_wp2
  go_ret
  exact ⟨rfl, BBs.out⟩
theorem own : ownKnob Try.prog.godebug = none := by kernel_rfl
theorem laidOut : laidOutB Try.prog = true := by kernel_rfl
set_option maxRecDepth 100000 in
theorem lifted (os : Os) (started : os.Started) (H : Type) (enc : TypeId × Value → H) :
    ReturnsInHanded {} Try.checked os 5 .any (Rows.fnExactRedSumSpec.pre6 enc Try.prog Try.f5 Rows.fnExactRedSumRow.domain false) (Rows.fnExactRedSumSpec.post enc Try.prog Try.f5 false true false false) := by
  refine returnsInHanded_of_change (C := Try.checked) own started (by kernel_rfl) Try.func5
    (ChangeSpec.witness6 (enc := enc) (C := Try.checked) false ⟨#[], #[.slice none 0 0, .slice none 0 0], []⟩ 8 (by kernel_rfl) (by kernel_rfl) (by kernel_rfl) (by kernel_rfl)) ?_
  intro W base args ds gs before hval0 hW hcnd _
  have hval : ∀ (j : Nat) t v, Try.f5.params[j]? = some t → args[j]? = some v → Value.okWide Try.prog W .any base t v := hval0
  have hW' := hW
  obtain ⟨p, q, hA0, hV, rfl, hfz, hnd⟩ := hW
  have hA : DataW.TrodAll enc Try.prog W 0 (fun _ => true) true Try.f5.params.toList args.toList ds p := hA0
  rw [Try.params5] at hA hval
  obtain ⟨v0, vs0, d0, ds0, p0, q0, hargs, rfl, rfl, h0, r0⟩ := trodAll_cons hA
  obtain ⟨v1, vs1, d1, ds1, p1, q1, rfl, rfl, rfl, h1, r1⟩ := trodAll_cons r0
  obtain ⟨rfl, rfl, rfl⟩ := trodAll_nil r1
  obtain rfl : args = #[v0, v1] := by cases args; simp_all
  obtain ⟨rfl, rfl⟩ := trodVars_none hV
  obtain ⟨a0, n0, c0, rfl⟩ := okWide_slice Try.underlying22 (hval 0 22 v0 rfl rfl)
  have k0 := h0
  have lt0 : ∀ x ∈ p0, x.block < W.heap.size := by obtain ⟨m, hm⟩ := k0; exact DataW.trod_lt m _ _ _ hm
  obtain ⟨ad0, ln0, cp0, f0, w0⟩ : ∃ ad ln cp f, IsLists W a0 n0 c0 ad ln cp f := by
    obtain ⟨fuel, hf⟩ := h0
    exact lists_open hf
  obtain ⟨a1, n1, c1, rfl⟩ := okWide_slice Try.underlying22 (hval 1 22 v1 rfl rfl)
  have k1 := h1
  have lt1 : ∀ x ∈ p1, x.block < W.heap.size := by obtain ⟨m, hm⟩ := k1; exact DataW.trod_lt m _ _ _ hm
  obtain ⟨ad1, ln1, cp1, f1, w1⟩ : ∃ ad ln cp f, IsLists W a1 n1 c1 ad ln cp f := by
    obtain ⟨fuel, hf⟩ := h1
    exact lists_open hf
  clear hA0 hval0
  refine (walk a0 n0 c0 ad0 ln0 cp0 f0 a1 n1 c1 ad1 ln1 cp1 f1 W w0 w1).mono fun e W' ⟨he, bel⟩ => ?_
  subst he
  exact ⟨_, rfl, _, _, _, [], _, [], hW', trodAll_mk1 (shut_bool Try.underlying4 _), (trodAll_cons_mk (Below.trod laidOut (by kernel_rfl) (of_decide_eq_true (by kernel_rfl)) k0 bel lt0) (trodAll_cons_mk (Below.trod laidOut (by kernel_rfl) (of_decide_eq_true (by kernel_rfl)) k1 bel lt1) trodAll_mk0)), rfl, bel.frame _, fun h => by cases h⟩
theorem over : Rows.fnExactRedSumRow.holds Try.pinned (OpenSpec.ofChange Rows.fnExactRedSumSpec) :=
  OpenClaim.holds_of_wide 5 Try.f5 rfl rfl rfl rfl rfl rfl rfl ⟨rfl, rfl, rfl, rfl, rfl⟩ rfl rfl rfl rfl rfl (by kernel_rfl) Try.func5 (by kernel_rfl)
    (of_decide_eq_true (by kernel_rfl)) (by unfold Func.isWrapper; first | (rw [if_pos (by decide +kernel)]; kernel_rfl) | (rw [if_neg (by decide +kernel)]; exact ⟨rfl, rfl⟩))
    (fun os started H enc _ => lifted os started H enc)
end Go.Proofs.Ytpfgelfmhhnbaaa.fnExactRedSum
namespace Go.Proofs.Ytpfgelfmhhnbaaa
theorem fnExactRedSum_holds : Rows.FnExactRedSumSaid := fnExactRedSum.over
#print axioms fnExactRedSum_holds
end Go.Proofs.Ytpfgelfmhhnbaaa
