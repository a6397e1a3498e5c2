/-
  FnExactGrbStairs: at every argument the program answers as its model; it writes into no argument, and its answer owns its memory.
-/
import Derived.Test.YtllfgoepfeoclaaStI
import Derived.Test.YtllfgoepfeoclaaGal
import Derived.ProofKit
import Derived.OpenShut
import Derived.Deep.RegionHeld3
import Derived.Deep.Light
namespace Go.Proofs.Ytllfgoepfeoclaa.fnExactGrbStairs
open Go.ChangeShapes Go.WideShapes Go.ChangeAt Go.RowKit Go.Deep Go.Joins
set_option linter.unusedVariables false

theorem apart_rd {lo hi : Nat} {w w' : World} {a : Option Addr} {n cap : Nat} {f : Nat → M} (h : RdM w a n cap f) (hA : Apart lo hi w w') (hb : n = 0 ∨ ∀ b off, a = some ⟨b, off, none⟩ → b < lo ∨ hi ≤ b) : RdM w' a n cap f := by
  obtain ⟨h1, h2, h3⟩ := h
  refine ⟨h1, h2, ?_⟩
  rcases h3 with h0 | ⟨b, off, rfl, hlt, hc⟩
  · exact .inl h0
  · rcases hb with h0 | hb
    · exact .inl h0
    · exact .inr ⟨b, off, rfl, by rw [hA.size]; exact hlt, fun i hi => (hc i hi).same (hA.block b hlt (hb b off rfl))⟩
theorem apart_wr {lo hi : Nat} {w w' : World} {a : Option Addr} {n : Nat} {f : Nat → M} (h : WrM w a n f) (hA : Apart lo hi w w') (hb : n = 0 ∨ ∀ b off, a = some ⟨b, off, none⟩ → b < lo ∨ hi ≤ b) : WrM w' a n f := by
  rcases h with h0 | ⟨g, off, N, F, rfl, hR, hN, hF⟩
  · exact .inl h0
  · rcases hb with h0 | hb
    · exact .inl h0
    · exact .inr ⟨g, off, N, F, rfl, hR.of_block (hA.block g hR.lt (hb g off rfl)), hN, hF⟩
theorem underM {w : World} {a : Option Addr} {n cap : Nat} {f : Nat → M} (h : RdM w a n cap f) : n = 0 ∨ ∀ b off, a = some ⟨b, off, none⟩ → b < w.heap.size := by
  rcases h.2.2 with h0 | ⟨b, off, rfl, hlt, _⟩
  · exact .inl h0
  · exact .inr fun b' off' e => by cases e; exact hlt
theorem fromM {lo : Nat} {w : World} {a : Option Addr} {cap : Nat} {L : List M} (h : OutM lo w a cap L) : L.length = 0 ∨ ∀ b off, a = some ⟨b, off, none⟩ → lo ≤ b := by
  rcases h.2.2 with h0 | ⟨g, off, rfl, hlo⟩
  · exact .inl h0
  · exact .inr fun b' off' e => by cases e; exact hlo
theorem apart_below {lo hi : Nat} {v w w' : World} (h : Below v.heap.size v w) (hA : Apart lo hi w w') (hn : v.heap.size ≤ lo) : Below v.heap.size v w' :=
  ⟨hA.os.trans h.os, hA.tape.trans h.tape, hA.output.trans h.output, by rw [hA.size]; exact h.size, fun k hk => (hA.block k (Nat.lt_of_lt_of_le hk h.size) (.inl (Nat.lt_of_lt_of_le hk hn))).trans (h.block k hk)⟩
/-- a copy of lists. -/
def Cp (w : World) (g n hi : Nat) (B ln : Nat → Nat) (f : Nat → Nat → T) : Prop := w.rowIs g 30 n (partS B ln n) ∧ ∀ i, i < n → g < B i ∧ B i < hi ∧ Own w (B i) (ln i) (f i)
theorem Cp.below {w w' : World} {g n hi : Nat} {B ln : Nat → Nat} {f : Nat → Nat → T} (h : Cp w g n hi B ln f) (hb : Below w.heap.size w w') : Cp w' g n hi B ln f :=
  ⟨h.1.of_block (hb.block g h.1.lt), fun i hi => ⟨(h.2 i hi).1, (h.2 i hi).2.1, (h.2 i hi).2.2.below hb (h.2 i hi).2.2.lt⟩⟩
theorem Cp.apart {w w' : World} {g n hi : Nat} {B ln : Nat → Nat} {f : Nat → Nat → T} {lo hi' : Nat} (h : Cp w g n hi B ln f) (hA : Apart lo hi' w w') (hg : hi' ≤ g) : Cp w' g n hi B ln f :=
  ⟨h.1.of_block (hA.block g h.1.lt (.inr hg)), fun i hi => ⟨(h.2 i hi).1, (h.2 i hi).2.1, (h.2 i hi).2.2.of_block (hA.block (B i) (h.2 i hi).2.2.lt (.inr (by have := (h.2 i hi).1; omega)))⟩⟩
set_option maxRecDepth 100000 in
set_option maxHeartbeats 8000000 in
theorem walk (x0 : Int) (a1 : Option Addr) (n1 c1 : Nat) (ad1 : Nat → Option Addr) (ln1 cp1 : Nat → Nat) (f1 : Nat → Nat → T) (w : World) (h1 : IsLists w a1 n1 c1 ad1 ln1 cp1 f1) : Calls Try.prog 4 #[.int .i64 x0, .slice a1 n1 c1] w fun e w' => e = .returned (.bool true) ∧ Below w.heap.size w w' := by
  have q1 : (n1 : Int) ≤ 9223372036854775807 := by have := h1.1; have := h1.2.1; unfold maxLen at this; omega
  have q3 : ∀ i, i < n1 → (ln1 i : Int) ≤ 9223372036854775807 := fun i hi => by have h := h1.2.2.2 i hi; have := h.1; have := h.2.1; unfold maxLen at this; omega
  have H1 := Hid.mk' h1
  have Q3 := Hid.mk' q3
  clear h1 q3
  go_enter Try.func4, Try.ntmps4
  go_wp2_with fail
  refine (szLists a1 n1 c1 ad1 ln1 cp1 1048576 w q1 (by omega) (by omega) H1.out.2.2.1 Q3.out).mono ?_
  rintro e w' ⟨y, rfl, hw', hy1, hy⟩
  obtain rfl := hw'.symm
  clear hw' Q3
  by_cases hneg2 : y < 0
  · go_wp2
    go_ret
    exact ⟨rfl, Below.refl _ _⟩
  have hb1 := hy (by omega)
  have m1 : n1 ≤ 1048576 := by have := hb1.1; omega
  have M1 : Hid (∀ i, i < n1 → ln1 i ≤ 1048576) := fun i hi => by have := hb1.2 i hi; omega
  have k1 : n1 * 40 ≤ 140737488351232 := by omega
  have K1 : Hid (∀ i, i < n1 → ln1 i * 40 ≤ 140737488351232) := fun i hi => by have := M1.out i hi; omega
  have R1 := Hid.mk' (H1.out.rd k1 K1.out)
  clear hy hb1 H1
  have hSS := fun (W : World) (g : Option Addr) (c : Nat) (ad : Nat → Option Addr) (cp : Nat → Nat) (h : RdS W g n1 c ad ln1 cp f1) => grbStairsS W x0 g n1 c ad ln1 cp f1 h
  have hII := fun (W : World) (g : Option Addr) (c : Nat) (ad : Nat → Option Addr) (cp : Nat → Nat) (h : RdS W g n1 c ad ln1 cp f1) => grbStairsI W x0 g n1 c ad ln1 cp f1 h
  have lenL := stairs_len x0 n1 ln1 f1
  generalize stairs x0 n1 ln1 f1 = L at hSS hII lenL
  have HSS := Hid.mk' hSS
  have HII := Hid.mk' hII
  clear hSS hII
  go_wp2_with fail
  refine (toLists _ _ _ _ _ _ _ _ R1.out).mono ?_
  rintro e wb ⟨Bb, rfl, hb, hr, ho⟩
  have Lb := Hid.mk' (lists_rd hr (fun i hi => (ho i hi).2) k1 K1.out)
  have BBb := Hid.mk' hb
  clear hb hr ho
  go_wp2_with fail
  refine (HSS.out _ _ _ _ _ Lb.out).mono ?_
  rintro e wc ⟨vs, rfl, hb, hown⟩
  have BBc := Hid.mk' (bel_next BBb.out hb)
  obtain ⟨asp, csp, rfl, hout⟩ := outM_of_owns hown (by omega)
  have Sc := Hid.mk' hout.1
  have US := Hid.mk' (underM hout.1)
  clear hb hown hout Lb BBb
  go_wp2_with fail
  refine (toLists2 _ _ _ _ _ _ _ _ (R1.out.below BBc.out)).mono ?_
  rintro e we ⟨C, rfl, hb, hr, ho, hD⟩
  have Ye : Hid (Cp we wc.heap.size n1 we.heap.size C ln1 f1) := ⟨hr, fun i hi => ⟨(ho i hi).1, (ho i hi).2.lt, (ho i hi).2⟩⟩
  have DC := Hid.mk' hD
  have BBe := Hid.mk' (bel_next BBc.out hb)
  have Se := Hid.mk' (Sc.out.below hb)
  have ze := Hid.mk' hb.size
  clear hb hr ho hD Sc
  go_wp2_with fail
  refine (HII.out _ _ _ _ _ (lists_rd Ye.out.1 (fun i hi => (Ye.out.2 i hi).2.2) k1 K1.out)).mono ?_
  rintro e wf ⟨vg, rfl, hb, hown⟩
  obtain ⟨ag, cg, rfl, hout⟩ := outM_of_owns hown (by omega)
  have FG := Hid.mk' (fromM hout)
  have Gf := Hid.mk' (And.intro hout.1 hout.2.1)
  have Yf := Hid.mk' (Ye.out.below hb)
  have BBf := Hid.mk' (bel_next BBe.out hb)
  have Sf := Hid.mk' (Se.out.below hb)
  clear hb hout hown Se Ye
  go_wp2_with fail
  refine (eqMons _ _ _ _ _ _ _ _ _ Gf.out.1 Sf.out).mono ?_
  rw [monsEq_same]
  rintro e wg ⟨rfl, hb⟩
  have Gg := Hid.mk' (And.intro (Gf.out.1.below hb) (Gf.out.2.below hb))
  have Sg := Hid.mk' (Sf.out.below hb)
  have Yg := Hid.mk' (Yf.out.below hb)
  have BBg := Hid.mk' (bel_next BBf.out hb)
  clear hb Gf Sf Yf
  go_wp2_with fail
  refine (toLists _ _ _ _ _ _ _ _ (R1.out.below BBg.out)).mono ?_
  rintro e wj ⟨Bj, rfl, hb, hr, ho⟩
  have Lj := Hid.mk' (lists_rd hr (fun i hi => (ho i hi).2) k1 K1.out)
  clear hr ho
  have Gj := Hid.mk' (And.intro (Gg.out.1.below hb) (Gg.out.2.below hb))
  have Sj := Hid.mk' (Sg.out.below hb)
  have Yj := Hid.mk' (Yg.out.below hb)
  have BBj := Hid.mk' (bel_next BBg.out hb)
  clear hb Gg Sg Yg
  go_wp2_with fail
  refine (eqLists _ _ _ _ _ _ _ _ _ _ _ _ (lists_rd Yj.out.1 (fun i hi => (Yj.out.2 i hi).2.2) k1 K1.out) Lj.out).mono ?_
  rintro e wk ⟨rfl, hb⟩
  clear Lj
  have Gk := Hid.mk' (And.intro (Gj.out.1.below hb) (Gj.out.2.below hb))
  have Sk := Hid.mk' (Sj.out.below hb)
  have Yk := Hid.mk' (Yj.out.below hb)
  have BBk := Hid.mk' (bel_next BBj.out hb)
  clear hb Gj Sj Yj
  have OS' : Hid (∀ lo hi, wc.heap.size ≤ lo → L.length = 0 ∨ ∀ b off, asp = some ⟨b, off, none⟩ → b < lo ∨ hi ≤ b) := fun lo hi hlo => by
    rcases US.out with h | h
    · exact .inl h
    · exact .inr fun b off e => .inl (by have := h b off e; omega)
  have OG : Hid (∀ lo hi, hi ≤ we.heap.size → L.length = 0 ∨ ∀ b off, ag = some ⟨b, off, none⟩ → b < lo ∨ hi ≤ b) := fun lo hi hhi => by
    rcases FG.out with h | h
    · exact .inl h
    · exact .inr fun b off e => .inr (by have := h b off e; omega)
  have hwc : w.heap.size ≤ wc.heap.size := BBc.out.size
  have hde : wc.heap.size ≤ we.heap.size := ze.out
  go_wp2_with fail
  refine (markLists _ _ _ we.heap.size C ln1 f1 1 Yk.out.1 Yk.out.2 DC.out m1 M1.out (by omega) (by omega)).mono ?_
  rintro e wm ⟨x2, rfl, x20, x21, hA⟩
  have Gm := Hid.mk' (And.intro (apart_rd Gk.out.1 hA (OG.out _ _ (Nat.le_refl _))) (apart_wr Gk.out.2 hA (OG.out _ _ (Nat.le_refl _))))
  have Sm := Hid.mk' (apart_rd Sk.out hA (OS'.out _ _ (by omega)))
  have BBm := Hid.mk' (apart_below BBk.out hA (by omega))
  clear hA Gk Sk Yk
  have dk : decide (x2 < 0) = false := decide_eq_false (by omega)
  have dk' : ¬ x2 < 0 := by omega
  go_wp2_with fail
  refine (eqMons _ _ _ _ _ _ _ _ _ Gm.out.1 Sm.out).mono ?_
  rw [monsEq_same]
  rintro e wn ⟨rfl, hb⟩
  have Gn := Hid.mk' (And.intro (Gm.out.1.below hb) (Gm.out.2.below hb))
  have Sn := Hid.mk' (Sm.out.below hb)
  have BBn := Hid.mk' (bel_next BBm.out hb)
  clear hb Gm Sm
  go_wp2_with fail
  refine (markMons _ _ _ _ _ 1 Gn.out.2 (by omega) (by omega) (by omega)).mono ?_
  rintro e wo ⟨rfl, hg, hz, hw, hsame⟩
  have BBo : Hid (Below w.heap.size w wo) := by
    by_cases hl : L.length = 0
    · rw [hsame hl]; exact BBn.out
    · refine bel_grown BBn.out hg (fun k e => ?_)
      rcases FG.out with h | h
      · exact absurd h hl
      · rcases Gn.out.2 with h' | ⟨g, off, _, _, rfl, _⟩
        · exact absurd h' hl
        · cases e
          exact Nat.le_trans (show w.heap.size ≤ we.heap.size by omega) (h g off rfl)
  have So : Hid (RdM wo asp L.length csp (lfm L)) := by
    by_cases hl : L.length = 0
    · rw [hsame hl]; exact Sn.out
    · refine Sn.out.grown hg (.inr fun b off e => ?_)
      rcases US.out with h | h
      · exact absurd h hl
      · rcases FG.out with h' | h'
        · exact absurd h' hl
        · rcases Gn.out.2 with h2 | ⟨g, off2, _, _, rfl, _⟩
          · exact absurd h2 hl
          · intro ee
            have e1 := h b off e
            have e2 : we.heap.size ≤ g := h' g off2 rfl
            have e3 : b = g := by simpa using ee
            have e4 : b < wc.heap.size := e1
            omega
  have Ho : Hid (RdM wo ag L.length cg (mkm 1)) := hw.rd Gn.out.1.1 (by omega)
  clear hg hz hw hsame Gn Sn
  have kq : decide ((1 : Int) + 4 * (L.length : Int) < 0) = false := decide_eq_false (by omega)
  go_wp2_with fail
  refine (heldMons _ _ _ _ 1 Ho.out (by omega) (by omega)).mono ?_
  rintro e w' ⟨rfl, hw'⟩
  obtain rfl := hw'.symm
  clear hw'
  go_wp2_with fail
  refine (toLists _ _ _ _ _ _ _ _ (R1.out.below BBo.out)).mono ?_
  rintro e wq ⟨Bq, rfl, hb, hr, ho⟩
  have Lq := Hid.mk' (lists_rd hr (fun i hi => (ho i hi).2) k1 K1.out)
  have Hq := Hid.mk' (Ho.out.below hb)
  have Sq := Hid.mk' (So.out.below hb)
  have BBq := Hid.mk' (bel_next BBo.out hb)
  clear hb hr ho Ho So
  go_wp2_with fail
  refine (HII.out _ _ _ _ _ Lq.out).mono ?_
  rintro e wr ⟨vh, rfl, hb, hown⟩
  obtain ⟨ah, ch, rfl, hout⟩ := outM_of_owns hown (by omega)
  have Ar := Hid.mk' hout.1
  have Hr := Hid.mk' (Hq.out.below hb)
  have Sr := Hid.mk' (Sq.out.below hb)
  have BBr := Hid.mk' (bel_next BBq.out hb)
  clear hb hout hown Hq Sq Lq
  go_wp2_with fail
  refine (eqMons _ _ _ _ _ _ _ _ _ Ar.out Sr.out).mono ?_
  rw [monsEq_same]
  rintro e ws ⟨rfl, hb⟩
  have Hs := Hid.mk' (Hr.out.below hb)
  have BBs := Hid.mk' (bel_next BBr.out hb)
  clear hb Hr Sr Ar
  go_wp2_with fail
  refine (heldMons _ _ _ _ 1 Hs.out (by omega) (by omega)).mono ?_
  rintro e w' ⟨rfl, hw'⟩
  obtain rfl := hw'.symm
  clear hw'
  go_wp2
  go_ret
  exact ⟨rfl, BBs.out⟩
theorem own : ownKnob Try.prog.godebug = none := by kernel_rfl
theorem laidOut : laidOutB Try.prog = true := by kernel_rfl
set_option maxRecDepth 100000 in
theorem lifted (os : Os) (started : os.Started) (H : Type) (enc : TypeId × Value → H) :
    ReturnsInHanded {} Try.checked os 4 .any (Rows.fnExactGrbStairsSpec.pre6 enc Try.prog Try.f4 Rows.fnExactGrbStairsRow.domain false) (Rows.fnExactGrbStairsSpec.post enc Try.prog Try.f4 false true false false) := by
  refine returnsInHanded_of_change (C := Try.checked) own started (by kernel_rfl) Try.func4
    (ChangeSpec.witness6 (enc := enc) (C := Try.checked) false ⟨#[], #[.int .i64 0, .slice none 0 0], []⟩ 8 (by kernel_rfl) (by kernel_rfl) (by kernel_rfl) (by kernel_rfl)) ?_
  intro W base args ds gs before hval0 hW hcnd _
  have hval : ∀ (j : Nat) t v, Try.f4.params[j]? = some t → args[j]? = some v → Value.okWide Try.prog W .any base t v := hval0
  have hW' := hW
  obtain ⟨p, q, hA0, hV, rfl, hfz, hnd⟩ := hW
  have hA : DataW.TrodAll enc Try.prog W 0 (fun _ => true) true Try.f4.params.toList args.toList ds p := hA0
  rw [Try.params4] at hA hval
  obtain ⟨v0, vs0, d0, ds0, p0, q0, hargs, rfl, rfl, h0, r0⟩ := trodAll_cons hA
  obtain ⟨v1, vs1, d1, ds1, p1, q1, rfl, rfl, rfl, h1, r1⟩ := trodAll_cons r0
  obtain ⟨rfl, rfl, rfl⟩ := trodAll_nil r1
  obtain rfl : args = #[v0, v1] := by cases args; simp_all
  obtain ⟨rfl, rfl⟩ := trodVars_none hV
  obtain ⟨x0, rfl, rfl, rfl, w0⟩ := open_int Try.underlying3 (hval 0 3 v0 rfl rfl) h0
  obtain ⟨a1, n1, c1, rfl⟩ := okWide_slice Try.underlying35 (hval 1 35 v1 rfl rfl)
  have k1 := h1
  have lt1 : ∀ x ∈ p1, x.block < W.heap.size := by obtain ⟨m, hm⟩ := k1; exact DataW.trod_lt m _ _ _ hm
  obtain ⟨ad1, ln1, cp1, f1, w1⟩ : ∃ ad ln cp f, IsLists W a1 n1 c1 ad ln cp f := by
    obtain ⟨fuel, hf⟩ := h1
    exact lists_open hf
  clear hA0 hval0
  refine (walk x0 a1 n1 c1 ad1 ln1 cp1 f1 W w1).mono fun e W' ⟨he, bel⟩ => ?_
  subst he
  exact ⟨_, rfl, _, _, _, [], _, [], hW', trodAll_mk1 (shut_bool Try.underlying4 _), (trodAll_cons_mk (shut_int Try.underlying3 w0) (trodAll_cons_mk (Below.trod laidOut (by kernel_rfl) (of_decide_eq_true (by kernel_rfl)) k1 bel lt1) trodAll_mk0)), rfl, bel.frame _, fun h => by cases h⟩
theorem over : Rows.fnExactGrbStairsRow.holds Try.pinned (OpenSpec.ofChange Rows.fnExactGrbStairsSpec) :=
  OpenClaim.holds_of_wide 4 Try.f4 rfl rfl rfl rfl rfl rfl rfl ⟨rfl, rfl, rfl, rfl, rfl⟩ rfl rfl rfl rfl rfl (by kernel_rfl) Try.func4 (by kernel_rfl)
    (of_decide_eq_true (by kernel_rfl)) (by unfold Func.isWrapper; first | (rw [if_pos (by decide +kernel)]; kernel_rfl) | (rw [if_neg (by decide +kernel)]; exact ⟨rfl, rfl⟩))
    (fun os started H enc _ => lifted os started H enc)
end Go.Proofs.Ytllfgoepfeoclaa.fnExactGrbStairs
namespace Go.Proofs.Ytllfgoepfeoclaa
theorem fnExactGrbStairs_holds : Rows.FnExactGrbStairsSaid := fnExactGrbStairs.over
#print axioms fnExactGrbStairs_holds
end Go.Proofs.Ytllfgoepfeoclaa
