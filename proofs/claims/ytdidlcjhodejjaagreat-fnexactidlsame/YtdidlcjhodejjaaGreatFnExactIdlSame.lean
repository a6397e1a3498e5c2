/-
  FnExactIdlSame: at every argument the program answers as its model; it writes into no argument, and its answer owns its memory.
-/
import Derived.OpenShut
import Derived.Test.YtdidlcjhodejjaaGreatMPaa
namespace Go.Proofs.YtdidlcjhodejjaaGreat.fnExactIdlSame
open Go.ChangeShapes Go.WideShapes Go.ChangeAt Go.RowKit Go.Deep Go.Joins
set_option linter.unusedVariables false
/-- a copy of lists. -/
def Cp (w : World) (g n hi : Nat) (B ln : Nat → Nat) (f : Nat → Nat → T) : Prop := w.rowIs g 45 n (lE B ln n) ∧ ∀ i, i < n → g < B i ∧ B i < hi ∧ Own w (B i) (ln i) (f i)
theorem Cp.below {w w' : World} {g n hi : Nat} {B ln : Nat → Nat} {f : Nat → Nat → T} (h : Cp w g n hi B ln f) (hb : Below w.heap.size w w') : Cp w' g n hi B ln f :=
  ⟨h.1.of_block (hb.block g h.1.lt), fun i hi => ⟨(h.2 i hi).1, (h.2 i hi).2.1, (h.2 i hi).2.2.below hb (h.2 i hi).2.2.lt⟩⟩
def LL (ln : Nat → Nat) (f : Nat → Nat → T) (i : Nat) : List T := (List.range (ln i)).map (f i)
theorem rds_LL {w : World} {a : Option Addr} {n c : Nat} {ad : Nat → Option Addr} {ln cp : Nat → Nat} {f : Nat → Nat → T} (h : cZ w a n c ad ln cp f) : cZ w a n c ad (lN (LL ln f)) cp (fN (LL ln f)) := by
  have e : lN (LL ln f) = ln := funext fun i => by show ((List.range (ln i)).map (f i)).length = ln i; simp
  rw [e]
  refine ⟨h.1, h.2.1, h.2.2.1, fun i hi => xE (h.2.2.2 i hi) (fun j hj => ?_)⟩
  show f i j = lf ((List.range (ln i)).map (f i)) j
  rw [jA (by simpa using hj)]
  simp
set_option maxRecDepth 100000 in
set_option maxHeartbeats 16000000 in
theorem walk (x0 : Int) (a0 : Option Addr) (n0 c0 : Nat) (ad0 : Nat → Option Addr) (ln0 cp0 : Nat → Nat) (f0 : Nat → Nat → T) (a1 : Option Addr) (n1 c1 : Nat) (ad1 : Nat → Option Addr) (ln1 cp1 : Nat → Nat) (f1 : Nat → Nat → T) (w : World) (h0 : kO w a0 n0 c0 ad0 ln0 cp0 f0) (h1 : kO w a1 n1 c1 ad1 ln1 cp1 f1) : Calls Tryz.prog 5 #[.int .i64 x0, .slice a0 n0 c0, .slice a1 n1 c1] w fun e w' => e = .returned (.bool true) ∧ Below w.heap.size w w' := by
  have q0 : (n0 : Int) ≤ 9223372036854775807 := by have := h0.1; have := h0.2.1; unfold maxLen at this; omega
  have q1 : (n1 : Int) ≤ 9223372036854775807 := by have := h1.1; have := h1.2.1; unfold maxLen at this; omega
  have q2 : ∀ i, i < n0 → (ln0 i : Int) ≤ 9223372036854775807 := fun i hi => by have h := h0.2.2.2 i hi; have := h.1; have := h.2.1; unfold maxLen at this; omega
  have q3 : ∀ i, i < n1 → (ln1 i : Int) ≤ 9223372036854775807 := fun i hi => by have h := h1.2.2.2 i hi; have := h.1; have := h.2.1; unfold maxLen at this; omega
  have H0 := aA h0
  have H1 := aA h1
  have Q2 := aA q2
  have Q3 := aA q3
  clear h0 h1 q2 q3
  go_enter Tryz.func5, Tryz.ntmps5
  go_wp2_with fail
  refine (AW a0 n0 c0 ad0 ln0 cp0 1048576 w q0 (by omega) (by omega) H0.out.2.2.1 Q2.out).mono ?_
  rintro e w' ⟨z, rfl, hw', hz1, hz⟩
  obtain rfl := hw'.symm
  clear hw' Q2
  by_cases hneg : z < 0
  · go_wp2
    go_ret
    exact ⟨rfl, Below.refl _ _⟩
  have hb0 := hz (by omega)
  have hz0 : 0 ≤ z := by omega
  have HBD0 := aA hb0
  clear hz hb0
  go_wp2_with fail
  refine (AW a1 n1 c1 ad1 ln1 cp1 z w q1 hz0 hz1 H1.out.2.2.1 Q3.out).mono ?_
  rintro e w' ⟨y, rfl, hw', hy1, hy⟩
  obtain rfl := hw'.symm
  clear hw' Q3
  by_cases hneg2 : y < 0
  · go_wp2
    go_ret
    exact ⟨rfl, Below.refl _ _⟩
  have hb1 := hy (by omega)
  have m0 : n0 ≤ 1048576 := by have := HBD0.out.1; omega
  have m1 : n1 ≤ 1048576 := by have := hb1.1; omega
  have M0 : Hid (∀ i, i < n0 → ln0 i ≤ 1048576) := fun i hi => by have := HBD0.out.2 i hi; omega
  have M1 : Hid (∀ i, i < n1 → ln1 i ≤ 1048576) := fun i hi => by have := hb1.2 i hi; omega
  have k0 : n0 * 40 ≤ 140737488351232 := by omega
  have k1 : n1 * 40 ≤ 140737488351232 := by omega
  have K0 : Hid (∀ i, i < n0 → ln0 i * 40 ≤ 140737488351232) := fun i hi => by have := M0.out i hi; omega
  have K1 : Hid (∀ i, i < n1 → ln1 i * 40 ≤ 140737488351232) := fun i hi => by have := M1.out i hi; omega
  have R0 := aA (H0.out.rd k0 K0.out)
  have R1 := aA (H1.out.rd k1 K1.out)
  clear hy hb1 H0 H1 HBD0
  obtain ⟨sm, hsm⟩ : ∃ s, (lU x0 n0 (LL ln0 f0) n1 (LL ln1 f1)).1 = s := ⟨_, rfl⟩
  obtain ⟨ok, hok⟩ : ∃ s, (lU x0 n0 (LL ln0 f0) n1 (LL ln1 f1)).2 = s := ⟨_, rfl⟩
  have hne1 : (sm != sm) = false := by simp
  have hne2 : (ok != ok) = false := by simp
  have HCS : Hid (∀ (W : World) (a : Option Addr) (c : Nat) (ad : Nat → Option Addr) (cp : Nat → Nat) (a' : Option Addr) (c' : Nat) (ad' : Nat → Option Addr) (cp' : Nat → Nat), cZ W a n0 c ad ln0 cp f0 → cZ W a' n1 c' ad' ln1 cp' f1 → Calls Tryz.prog 18 #[.int .i64 x0, .slice a n0 c, .slice a' n1 c'] W fun r w' => r = .returned (.tuple #[.bool sm, .bool ok]) ∧ Below W.heap.size W w') := fun W a c ad cp a' c' ad' cp' h h' => by
    have := Cm W x0 a a' n0 c n1 c' ad ad' cp cp' (LL ln0 f0) (LL ln1 f1) (rds_LL h) (rds_LL h')
    rw [hsm, hok] at this
    exact this
  have HCI : Hid (∀ (W : World) (a : Option Addr) (c : Nat) (ad : Nat → Option Addr) (cp : Nat → Nat) (a' : Option Addr) (c' : Nat) (ad' : Nat → Option Addr) (cp' : Nat → Nat), cZ W a n0 c ad ln0 cp f0 → cZ W a' n1 c' ad' ln1 cp' f1 → Calls Tryz.prog 19 #[.int .i64 x0, .slice a n0 c, .slice a' n1 c'] W fun r w' => r = .returned (.tuple #[.bool sm, .bool ok]) ∧ Below W.heap.size W w') := fun W a c ad cp a' c' ad' cp' h h' => by
    have := Cl W x0 a a' n0 c n1 c' ad ad' cp cp' (LL ln0 f0) (LL ln1 f1) (rds_LL h) (rds_LL h')
    rw [hsm, hok] at this
    exact this
  clear hsm hok
  go_wp2_with fail
  refine (mA _ _ _ _ _ _ _ _ R0.out).mono ?_
  rintro e wa ⟨Ba, rfl, hb, hr, ho⟩
  have La := aA (eE hr (fun i hi => (ho i hi).2) k0 K0.out)
  have BBa := aA hb
  clear hb hr ho
  go_wp2_with fail
  refine (mA _ _ _ _ _ _ _ _ (R1.out.below BBa.out)).mono ?_
  rintro e wb ⟨Bb, rfl, hb, hr, ho⟩
  have Lb := aA (eE hr (fun i hi => (ho i hi).2) k1 K1.out)
  have La2 := aA (La.out.below hb)
  have BBb := aA (aB BBa.out hb)
  clear hb hr ho La BBa
  go_wp2_with fail
  refine (HCS.out _ _ _ _ _ _ _ _ _ La2.out Lb.out).mono ?_
  rintro e wc ⟨rfl, hb⟩
  have BBc := aA (aB BBb.out hb)
  clear hb La2 Lb BBb HCS
  go_wp2_with fail
  refine (xM _ _ _ _ _ _ _ _ (R0.out.below BBc.out)).mono ?_
  rintro e wd ⟨B, rfl, hb, hr, ho, hD⟩
  have Xd : Hid (Cp wd wc.heap.size n0 wd.heap.size B ln0 f0) := ⟨hr, fun i hi => ⟨(ho i hi).1, (ho i hi).2.lt, (ho i hi).2⟩⟩
  have BBd := aA (aB BBc.out hb)
  clear hb hr ho hD
  go_wp2_with fail
  refine (xM _ _ _ _ _ _ _ _ (R1.out.below BBd.out)).mono ?_
  rintro e we ⟨C, rfl, hb, hr, ho, hD⟩
  have Ye : Hid (Cp we wd.heap.size n1 we.heap.size C ln1 f1) := ⟨hr, fun i hi => ⟨(ho i hi).1, (ho i hi).2.lt, (ho i hi).2⟩⟩
  have Xe := aA (Xd.out.below hb)
  have BBe := aA (aB BBd.out hb)
  clear hb hr ho hD Xd
  go_wp2_with fail
  refine (HCI.out _ _ _ _ _ _ _ _ _ (eE Xe.out.1 (fun i hi => (Xe.out.2 i hi).2.2) k0 K0.out) (eE Ye.out.1 (fun i hi => (Ye.out.2 i hi).2.2) k1 K1.out)).mono ?_
  rintro e wf ⟨rfl, hb⟩
  have Xf := aA (Xe.out.below hb)
  have Yf := aA (Ye.out.below hb)
  have BBf := aA (aB BBe.out hb)
  clear hb Xe Ye HCI
  go_wp2_with fail
  refine (mA _ _ _ _ _ _ _ _ (R0.out.below BBf.out)).mono ?_
  rintro e wg ⟨Bg, rfl, hb, hr, ho⟩
  have Lg := aA (eE hr (fun i hi => (ho i hi).2) k0 K0.out)
  have Xg := aA (Xf.out.below hb)
  have Yg := aA (Yf.out.below hb)
  have BBg := aA (aB BBf.out hb)
  clear hb hr ho Xf Yf
  go_wp2_with fail
  refine (lT _ _ _ _ _ _ _ _ _ _ _ _ (eE Xg.out.1 (fun i hi => (Xg.out.2 i hi).2.2) k0 K0.out) Lg.out).mono ?_
  rintro e wh ⟨rfl, hb⟩
  have Yh := aA (Yg.out.below hb)
  have BBh := aA (aB BBg.out hb)
  clear hb Lg Xg Yg
  go_wp2_with fail
  refine (mA _ _ _ _ _ _ _ _ (R1.out.below BBh.out)).mono ?_
  rintro e wi ⟨Bi, rfl, hb, hr, ho⟩
  have Li := aA (eE hr (fun i hi => (ho i hi).2) k1 K1.out)
  have Yi := aA (Yh.out.below hb)
  have BBi := aA (aB BBh.out hb)
  clear hb hr ho Yh
  go_wp2_with fail
  refine (lT _ _ _ _ _ _ _ _ _ _ _ _ (eE Yi.out.1 (fun i hi => (Yi.out.2 i hi).2.2) k1 K1.out) Li.out).mono ?_
  rintro e wj ⟨rfl, hb⟩
  have BBj := aA (aB BBi.out hb)
  clear hb Li Yi
  go_wp2
  go_ret
  exact ⟨rfl, BBj.out⟩
theorem own : ownKnob Tryz.prog.godebug = none := by kernel_rfl
theorem laidOut : laidOutB Tryz.prog = true := by kernel_rfl
set_option maxRecDepth 100000 in
theorem lifted (os : Os) (started : os.Started) (H : Type) (enc : TypeId × Value → H) :
    ReturnsInHanded {} Tryz.checked os 5 .any (Rows.fnExactIdlSameSpec.pre6 enc Tryz.prog Tryz.f5 Rows.fnExactIdlSameRow.domain false) (Rows.fnExactIdlSameSpec.post enc Tryz.prog Tryz.f5 false true false false) := by
  refine returnsInHanded_of_change (C := Tryz.checked) own started (by kernel_rfl) Tryz.func5
    (ChangeSpec.witness6 (enc := enc) (C := Tryz.checked) false ⟨#[], #[.int .i64 0, .slice none 0 0, .slice none 0 0], []⟩ 8 (by kernel_rfl) (by kernel_rfl) (by kernel_rfl) (by kernel_rfl)) ?_
  intro W base args ds gs before hval0 hW hcnd _
  have hval : ∀ (j : Nat) t v, Tryz.f5.params[j]? = some t → args[j]? = some v → Value.okWide Tryz.prog W .any base t v := hval0
  have hW' := hW
  obtain ⟨p, q, hA0, hV, rfl, hfz, hnd⟩ := hW
  have hA : DataW.TrodAll enc Tryz.prog W 0 (fun _ => true) true Tryz.f5.params.toList args.toList ds p := hA0
  rw [Tryz.params5] at hA hval
  obtain ⟨v0, vs0, d0, ds0, p0, q0, hargs, rfl, rfl, h0, r0⟩ := trodAll_cons hA
  obtain ⟨v1, vs1, d1, ds1, p1, q1, rfl, rfl, rfl, h1, r1⟩ := trodAll_cons r0
  obtain ⟨v2, vs2, d2, ds2, p2, q2, rfl, rfl, rfl, h2, r2⟩ := trodAll_cons r1
  obtain ⟨rfl, rfl, rfl⟩ := trodAll_nil r2
  obtain rfl : args = #[v0, v1, v2] := by cases args; simp_all
  obtain ⟨rfl, rfl⟩ := trodVars_none hV
  obtain ⟨x0, rfl, rfl, rfl, w0⟩ := open_int Tryz.underlying3 (hval 0 3 v0 rfl rfl) h0
  obtain ⟨a1, n1, c1, rfl⟩ := okWide_slice Tryz.underlying22 (hval 1 22 v1 rfl rfl)
  have k1 := h1
  have lt1 : ∀ x ∈ p1, x.block < W.heap.size := by obtain ⟨m, hm⟩ := k1; exact DataW.trod_lt m _ _ _ hm
  obtain ⟨ad1, ln1, cp1, f1, w1⟩ : ∃ ad ln cp f, kO W a1 n1 c1 ad ln cp f := by
    obtain ⟨fuel, hf⟩ := h1
    exact qY hf
  obtain ⟨a2, n2, c2, rfl⟩ := okWide_slice Tryz.underlying22 (hval 2 22 v2 rfl rfl)
  have k2 := h2
  have lt2 : ∀ x ∈ p2, x.block < W.heap.size := by obtain ⟨m, hm⟩ := k2; exact DataW.trod_lt m _ _ _ hm
  obtain ⟨ad2, ln2, cp2, f2, w2⟩ : ∃ ad ln cp f, kO W a2 n2 c2 ad ln cp f := by
    obtain ⟨fuel, hf⟩ := h2
    exact qY hf
  clear hA0 hval0
  refine (walk x0 a1 n1 c1 ad1 ln1 cp1 f1 a2 n2 c2 ad2 ln2 cp2 f2 W w1 w2).mono fun e W' ⟨he, bel⟩ => ?_
  subst he
  exact ⟨_, rfl, _, _, _, [], _, [], hW', trodAll_mk1 (shut_bool Tryz.underlying4 _), (trodAll_cons_mk (shut_int Tryz.underlying3 w0) (trodAll_cons_mk (Below.trod laidOut (by kernel_rfl) (of_decide_eq_true (by kernel_rfl)) k1 bel lt1) (trodAll_cons_mk (Below.trod laidOut (by kernel_rfl) (of_decide_eq_true (by kernel_rfl)) k2 bel lt2) trodAll_mk0))), rfl, bel.frame _, fun h => by cases h⟩
theorem over : Rows.fnExactIdlSameRow.holds Tryz.pinned (OpenSpec.ofChange Rows.fnExactIdlSameSpec) :=
  OpenClaim.holds_of_wide 5 Tryz.f5 rfl rfl rfl rfl rfl rfl rfl ⟨rfl, rfl, rfl, rfl, rfl⟩ rfl rfl rfl rfl rfl (by kernel_rfl) Tryz.func5 (by kernel_rfl)
    (of_decide_eq_true (by kernel_rfl)) (by unfold Func.isWrapper; first | (rw [if_pos (by decide +kernel)]; kernel_rfl) | (rw [if_neg (by decide +kernel)]; exact ⟨rfl, rfl⟩))
    (fun os started H enc _ => lifted os started H enc)
end Go.Proofs.YtdidlcjhodejjaaGreat.fnExactIdlSame
namespace Go.Proofs.YtdidlcjhodejjaaGreat
theorem fnExactIdlSame_holds : Rows.FnExactIdlSameSaid := fnExactIdlSame.over
#print axioms fnExactIdlSame_holds
end Go.Proofs.YtdidlcjhodejjaaGreat
