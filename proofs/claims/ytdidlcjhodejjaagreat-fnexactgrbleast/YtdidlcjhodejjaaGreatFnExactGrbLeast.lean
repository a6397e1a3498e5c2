/-
  FnExactGrbLeast: at every argument the program answers as its model; it writes into no argument, and its answer owns its memory.
-/
import Derived.OpenShut
import Derived.Test.YtdidlcjhodejjaaGreatMDaa
import Derived.Test.YtdidlcjhodejjaaGreatMFab
import Derived.Test.YtdidlcjhodejjaaGreatMLaa
namespace Go.Proofs.YtdidlcjhodejjaaGreat.fnExactGrbLeast
open Go.ChangeShapes Go.WideShapes Go.ChangeAt Go.RowKit Go.Deep Go.Joins
set_option linter.unusedVariables false
/-- blocks from lo on that were there are as they were. -/
structure Above (lo : Nat) (w w' : World) : Prop where
  size : w.heap.size ≤ w'.heap.size
  block : ∀ k, lo ≤ k → k < w.heap.size → w'.heap[k]? = w.heap[k]?
theorem Above.refl (lo : Nat) (w : World) : Above lo w w := ⟨Nat.le_refl _, fun _ _ _ => rfl⟩
theorem Above.next {lo : Nat} {w w' w'' : World} (h : Above lo w w') (hb : Below w'.heap.size w' w'') : Above lo w w'' := ⟨Nat.le_trans h.size hb.size, fun k hk hl => (hb.block k (Nat.lt_of_lt_of_le hl h.size)).trans (h.block k hk hl)⟩
theorem Above.grown {lo : Nat} {w w' w'' : World} {b : Nat} (h : Above lo w w') (hg : w'.grownBy w'' (some b)) (hb : b < lo) : Above lo w w'' :=
  ⟨Nat.le_trans h.size hg.size, fun k hk hl => (hg.block k (Nat.lt_of_lt_of_le hl h.size) (fun e => by have : k = b := (by simpa using e); omega)).trans (h.block k hk hl)⟩
theorem Above.apart {lo : Nat} {w w' w'' : World} {l hi : Nat} (h : Above lo w w') (hA : rK l hi w' w'') (hh : hi ≤ lo) : Above lo w w'' :=
  ⟨by rw [hA.size]; exact h.size, fun k hk hl => (hA.block k (Nat.lt_of_lt_of_le hl h.size) (.inr (Nat.le_trans hh hk))).trans (h.block k hk hl)⟩
theorem Above.rd {lo : Nat} {w w' : World} (ha : Above lo w w') {a : Option Addr} {n cap : Nat} {f : Nat → T} (h : Rd w a n cap f) (hb : n = 0 ∨ ∀ b off, a = some ⟨b, off, none⟩ → lo ≤ b) : Rd w' a n cap f := by
  obtain ⟨h1, h2, h3⟩ := h
  refine ⟨h1, h2, ?_⟩
  rcases h3 with h0 | ⟨b, off, rfl, hlt, hc⟩
  · exact .inl h0
  · rcases hb with h0 | hb
    · exact .inl h0
    · exact .inr ⟨b, off, rfl, Nat.lt_of_lt_of_le hlt ha.size, fun i hi => (hc i hi).same (ha.block b (hb b off rfl) hlt)⟩
theorem Above.wr {lo : Nat} {w w' : World} (ha : Above lo w w') {a : Option Addr} {n : Nat} {f : Nat → T} (h : Wr w a n f) (hb : n = 0 ∨ ∀ b off, a = some ⟨b, off, none⟩ → lo ≤ b) : Wr w' a n f := by
  rcases h with h0 | ⟨g, off, N, F, rfl, hR, hN, hF⟩
  · exact .inl h0
  · rcases hb with h0 | hb
    · exact .inl h0
    · exact .inr ⟨g, off, N, F, rfl, hR.of_block (ha.block g (hb g off rfl) hR.lt), hN, hF⟩
theorem Above.outs {lo : Nat} {w w' : World} (ha : Above lo w w') {a : Option Addr} {n cap : Nat} {ad : Nat → Option Addr} {ln cp : Nat → Nat} {f : Nat → Nat → T} {R : Nat} {B : Nat → Nat} (h : iL lo w a n cap ad ln cp f R B) : iL lo w' a n cap ad ln cp f R B := by
  have hne : ∀ i, i < n → ln i = 0 ∨ ∀ b off, ad i = some ⟨b, off, none⟩ → lo ≤ b := fun i hi => (h.el i hi).imp id (fun ⟨off, e, h1, _⟩ b' off' e' => by
    rw [e] at e'; cases e'; exact h1)
  refine ⟨⟨h.rd.1, h.rd.2.1, ?_, fun i hi => ha.rd (h.rd.2.2.2 i hi) (hne i hi)⟩, h.row, fun i hi => ha.wr (h.wr i hi) (hne i hi), h.el, h.ap⟩
  rcases h.rd.2.2.1 with h0 | ⟨b', off, e, hlt, hc⟩
  · exact .inl h0
  · rcases h.row with h0 | ⟨off', e', hlo⟩
    · exact .inl h0
    · rw [e'] at e
      obtain ⟨rfl, rfl⟩ : R = b' ∧ off' = off := by simpa using e
      exact .inr ⟨R, off', e', Nat.lt_of_lt_of_le hlt ha.size, fun i hi => (World.cell?_of_block (a := ⟨R, off' + i, none⟩) (ha.block R hlo hlt)).trans (hc i hi)⟩
theorem Above.out {lo mid : Nat} {w w' : World} (ha : Above lo w w') {a : Option Addr} {c : Nat} {L : List T} (h : jN mid w a c L) (hm : lo ≤ mid) : jN mid w' a c L := by
  have hne : L.length = 0 ∨ ∀ b off, a = some ⟨b, off, none⟩ → lo ≤ b := h.2.2.imp id (fun ⟨g, off, e, h1⟩ b' off' e' => by
    rw [e] at e'; cases e'; omega)
  exact ⟨ha.rd h.1 hne, ha.wr h.2.1 hne, h.2.2⟩
theorem apart_below {lo hi : Nat} {v w w' : World} {B : Nat} (h : Below B v w) (hA : rK lo hi w w') (hn : B ≤ lo) (hB : B ≤ v.heap.size) : Below B v w' :=
  ⟨hA.os.trans h.os, hA.tape.trans h.tape, hA.output.trans h.output, by rw [hA.size]; exact h.size, fun k hk => (hA.block k (Nat.lt_of_lt_of_le (Nat.lt_of_lt_of_le hk hB) h.size) (.inl (Nat.lt_of_lt_of_le hk hn))).trans (h.block k hk)⟩
/-- a copy of lists. -/
def Cp (w : World) (g n hi : Nat) (B ln : Nat → Nat) (f : Nat → Nat → T) : Prop := w.rowIs g 45 n (lE B ln n) ∧ ∀ i, i < n → g < B i ∧ B i < hi ∧ Own w (B i) (ln i) (f i)
theorem Cp.below {w w' : World} {g n hi : Nat} {B ln : Nat → Nat} {f : Nat → Nat → T} (h : Cp w g n hi B ln f) (hb : Below w.heap.size w w') : Cp w' g n hi B ln f :=
  ⟨h.1.of_block (hb.block g h.1.lt), fun i hi => ⟨(h.2 i hi).1, (h.2 i hi).2.1, (h.2 i hi).2.2.below hb (h.2 i hi).2.2.lt⟩⟩
theorem Cp.grown {w w' : World} {g n hi : Nat} {B ln : Nat → Nat} {f : Nat → Nat → T} {b : Nat} (h : Cp w g n hi B ln f) (hg : w.grownBy w' (some b)) (hb : b < g) : Cp w' g n hi B ln f :=
  ⟨h.1.of_block (hg.block g h.1.lt (by simp; omega)), fun i hi => ⟨(h.2 i hi).1, (h.2 i hi).2.1, (h.2 i hi).2.2.of_block (hg.block (B i) (h.2 i hi).2.2.lt (by have := (h.2 i hi).1; simp; omega))⟩⟩
/-- a row whose slices do not lie in a block. -/
theorem rds_grown {w w' : World} {a : Option Addr} {n cap : Nat} {ad : Nat → Option Addr} {ln cp : Nat → Nat} {f : Nat → Nat → T} (h : cZ w a n cap ad ln cp f) {b : Nat} (hg : w.grownBy w' (some b)) (h1 : n = 0 ∨ ∀ c off, a = some ⟨c, off, none⟩ → c ≠ b) (h2 : ∀ i, i < n → ln i = 0 ∨ ∀ c off, ad i = some ⟨c, off, none⟩ → c ≠ b) : cZ w' a n cap ad ln cp f := by
  refine ⟨h.1, h.2.1, ?_, fun i hi => (h.2.2.2 i hi).grown hg ((h2 i hi).imp id (fun hh c off e e' => hh c off e (by simpa using e')))⟩
  rcases h.2.2.1 with h0 | ⟨c, off, e, hlt, hc⟩
  · exact .inl h0
  · rcases h1 with h0 | h1
    · exact .inl h0
    · exact .inr ⟨c, off, e, Nat.lt_of_lt_of_le hlt hg.size, fun i hi => (World.cell?_of_block (a := ⟨c, off + i, none⟩) (hg.block c hlt (fun e2 => h1 c off e (by simpa using e2)))).trans (hc i hi)⟩
def LL (ln : Nat → Nat) (f : Nat → Nat → T) (i : Nat) : List T := (List.range (ln i)).map (f i)
theorem rds_LL {w : World} {a : Option Addr} {n c : Nat} {ad : Nat → Option Addr} {ln cp : Nat → Nat} {f : Nat → Nat → T} (h : cZ w a n c ad ln cp f) : cZ w a n c ad (lN (LL ln f)) cp (fN (LL ln f)) := by
  have e : lN (LL ln f) = ln := funext fun i => by show ((List.range (ln i)).map (f i)).length = ln i; simp
  rw [e]
  refine ⟨h.1, h.2.1, h.2.2.1, fun i hi => xE (h.2.2.2 i hi) (fun j hj => ?_)⟩
  show f i j = lf ((List.range (ln i)).map (f i)) j
  rw [jA (by simpa using hj)]
  simp
set_option maxRecDepth 100000 in
set_option maxHeartbeats 16000000 in
theorem walk (x0 : Int) (a2 : Option Addr) (n2 c2 : Nat) (ad2 : Nat → Option Addr) (ln2 cp2 : Nat → Nat) (f2 : Nat → Nat → T) (w : World) (h2 : kO w a2 n2 c2 ad2 ln2 cp2 f2) : Calls Tryz.prog 3 #[.int .i64 x0, .slice a2 n2 c2] w fun e w' => e = .returned (.bool true) ∧ Below w.heap.size w w' := by
  have q0 : (n2 : Int) ≤ 9223372036854775807 := by have := h2.1; have := h2.2.1; unfold maxLen at this; omega
  have q2 : ∀ i, i < n2 → (ln2 i : Int) ≤ 9223372036854775807 := fun i hi => by have h := h2.2.2.2 i hi; have := h.1; have := h.2.1; unfold maxLen at this; omega
  have H2 := aA h2
  have Q2 := aA q2
  clear h2 q2
  go_enter Tryz.func3, Tryz.ntmps3
  go_wp2_with fail
  refine (AW a2 n2 c2 ad2 ln2 cp2 1048576 w q0 (by omega) (by omega) H2.out.2.2.1 Q2.out).mono ?_
  rintro e w' ⟨z, rfl, hw', hz1, hz⟩
  obtain rfl := hw'.symm
  clear hw' Q2
  by_cases hneg : z < 0
  · go_wp2
    go_ret
    exact ⟨rfl, Below.refl _ _⟩
  have hb := hz (by omega)
  have hn40 : n2 * 40 ≤ 140737488351232 := by omega
  have hl40 : ∀ i, i < n2 → ln2 i * 40 ≤ 140737488351232 := fun i hi => by have := hb.2 i hi; omega
  have m2 : n2 ≤ 1048576 := by have := hb.1; omega
  have M2 : Hid (∀ i, i < n2 → ln2 i ≤ 1048576) := fun i hi => by have := hb.2 i hi; omega
  have R2 := aA (H2.out.rd hn40 hl40)
  have HL := aA hl40
  clear hz hb hl40 H2
  obtain ⟨R, hR⟩ : ∃ R, aU x0 n2 (LL ln2 f2) = R := ⟨_, rfl⟩
  obtain ⟨bd1, bd2⟩ := CO (o := x0) (n := n2) (L := LL ln2 f2)
  rw [hR] at bd1 bd2
  obtain ⟨l, hl⟩ : ∃ l, IE R = l := ⟨_, rfl⟩
  obtain ⟨so, hso⟩ : ∃ s, R.isSome = s := ⟨_, rfl⟩
  rw [hl] at bd1 bd2
  have hn3 : (l.length : Int) ≤ 12 := by omega
  have BD2 : Hid (∀ i, i < l.length → lN (bC l) i ≤ 1048576) := fun i hi => by have := bd2 i; show (bC l i).length ≤ 1048576; omega
  have hnb : (so != so) = false := by simp
  have HCS : Hid (∀ (W : World) (a : Option Addr) (c : Nat) (ad : Nat → Option Addr) (cp : Nat → Nat), cZ W a n2 c ad ln2 cp f2 → Calls Tryz.prog 10 #[.int .i64 x0, .slice a n2 c] W fun r w' => ∃ qa qc qad qcp, r = .returned (.tuple #[.slice qa l.length qc, .bool so]) ∧ Below W.heap.size W w' ∧ cZ w' qa l.length qc qad (lN (bC l)) qcp (fN (bC l))) := fun W a c ad cp hW => by
    have := yF W x0 a n2 c ad cp (LL ln2 f2) (rds_LL hW)
    rw [hR] at this
    refine this.mono fun r w' h => ?_
    have h2 : kQ W R r w' := uM.all h
    unfold kQ at h2
    rw [hl, hso] at h2
    exact h2
  have HCI : Hid (∀ (W : World) (a : Option Addr) (c : Nat) (ad : Nat → Option Addr) (cp : Nat → Nat), cZ W a n2 c ad ln2 cp f2 → Calls Tryz.prog 12 #[.int .i64 x0, .slice a n2 c] W fun r w' => ∃ qa qc qad qcp Rb B, r = .returned (.tuple #[.slice qa l.length qc, .bool so]) ∧ Below W.heap.size W w' ∧ iL W.heap.size w' qa l.length qc qad (lN (bC l)) qcp (fN (bC l)) Rb B) := fun W a c ad cp hW => by
    have := kK W x0 a n2 c ad cp (LL ln2 f2) (rds_LL hW)
    rw [hR] at this
    refine this.mono fun r w' h => ?_
    have h2 : kP W R r w' := rU.all h
    unfold kP at h2
    rw [hl, hso] at h2
    exact h2
  clear hR bd2 hl hso
  go_wp2_with fail
  refine (mA _ _ _ _ _ _ _ _ R2.out).mono ?_
  rintro e wb ⟨Bb, rfl, hb, hr, ho⟩
  have Lb := aA (eE hr (fun i hi => (ho i hi).2) hn40 HL.out)
  have Bb' := aA hb
  clear hb hr ho
  go_wp2_with fail
  refine (HCS.out _ _ _ _ _ Lb.out).mono ?_
  rintro e wc ⟨sa, sc, sad, scp, rfl, hb, hs⟩
  have Bc := aA (aB Bb'.out hb)
  have SQ := aA hs
  clear hb hs Lb Bb'
  go_wp2_with fail
  refine (xM _ _ _ _ _ _ _ _ (R2.out.below Bc.out)).mono ?_
  rintro e we ⟨C, rfl, hb, hr, ho, hD⟩
  have Ye : Hid (Cp we wc.heap.size n2 we.heap.size C ln2 f2) := ⟨hr, fun i hi => ⟨(ho i hi).1, (ho i hi).2.lt, (ho i hi).2⟩⟩
  have DC := aA hD
  have Be := aA (aB Bc.out hb)
  have Se := aA hb
  have ze : wc.heap.size ≤ we.heap.size := hb.size
  clear hb hr ho hD
  go_wp2_with fail
  refine (HCI.out _ _ _ _ _ (eE Ye.out.1 (fun i hi => (Ye.out.2 i hi).2.2) hn40 HL.out)).mono ?_
  rintro e wf ⟨ga, gc, gad, gcp, Rb, GB, rfl, hb, hO⟩
  have GO := aA hO
  have Bf := aA (aB Be.out hb)
  have Sf := aA (aB Se.out hb)
  have Xf := aA hb
  have Af := aA (Above.refl we.heap.size wf)
  clear hb hO Be Se
  go_wp2_with fail
  refine (lT _ _ _ _ _ _ _ _ _ _ _ _ (Af.out.outs GO.out).rd (SQ.out.below Sf.out)).mono ?_
  rintro e wg ⟨rfl, hb⟩
  have Bg := aA (aB Bf.out hb)
  have Sg := aA (aB Sf.out hb)
  have Xg := aA (aB Xf.out hb)
  have Ag := aA (Af.out.next hb)
  clear hb Bf Sf Xf Af
  go_wp2_with fail
  refine (mA _ _ _ _ _ _ _ _ (R2.out.below Bg.out)).mono ?_
  rintro e wk ⟨Bk', rfl, hb, hr, ho⟩
  have Lk := aA (eE hr (fun i hi => (ho i hi).2) hn40 HL.out)
  have Bk := aA (aB Bg.out hb)
  have Sk := aA (aB Sg.out hb)
  have Xk := aA (aB Xg.out hb)
  have Ak := aA (Ag.out.next hb)
  clear hb hr ho Bg Sg Xg Ag
  go_wp2_with fail
  refine (lT _ _ _ _ _ _ _ _ _ _ _ _ (eE (Ye.out.below Xk.out).1 (fun i hi => ((Ye.out.below Xk.out).2 i hi).2.2) hn40 HL.out) Lk.out).mono ?_
  rintro e wl ⟨rfl, hb⟩
  have Bl := aA (aB Bk.out hb)
  have Sl := aA (aB Sk.out hb)
  have Xl := aA (aB Xk.out hb)
  have Al := aA (Ak.out.next hb)
  clear hb Bk Sk Xk Ak Lk
  have Yo := aA (Ye.out.below Xl.out)
  go_wp2_with fail
  refine (GR _ _ _ we.heap.size C ln2 f2 1 Yo.out.1 Yo.out.2 DC.out m2 M2.out (by omega) (by omega)).mono ?_
  rintro e wn ⟨x2, rfl, x20, x21, hA⟩
  have Bn := aA (apart_below Bl.out hA (by have := Bc.out.size; omega) (Nat.le_refl _))
  have Sn := aA (apart_below Sl.out hA (by omega) (Nat.le_refl _))
  have An := aA (Al.out.apart hA (Nat.le_refl _))
  clear hA Bl Sl Al Xl Yo
  have dk : decide (x2 < 0) = false := decide_eq_false (by omega)
  have dk' : ¬ x2 < 0 := by omega
  go_wp2_with fail
  refine (lT _ _ _ _ _ _ _ _ _ _ _ _ (An.out.outs GO.out).rd (SQ.out.below Sn.out)).mono ?_
  rintro e wp ⟨rfl, hb⟩
  have Bp := aA (aB Bn.out hb)
  have Sp := aA (aB Sn.out hb)
  have Ap := aA (An.out.next hb)
  clear hb Bn Sn An
  obtain ⟨K, hK⟩ : ∃ K, oF 1 (lN (bC l)) (l.length) = K := ⟨_, rfl⟩
  have hKb := wO (k := 1) (ln := fun i => lN (bC l) i) (n := l.length) BD2.out (l.length) (Nat.le_refl _)
  rw [hK] at hKb
  obtain ⟨hk1, hk2⟩ := hKb
  have HKK := aA hK
  have PL : Hid (∀ k, (∃ i, i < l.length ∧ lN (bC l) i ≠ 0 ∧ GB i = k) → we.heap.size ≤ k) := fun k ⟨i, hi, h0, e⟩ => by
    rcases GO.out.el i hi with hz | ⟨_, _, h2, _⟩
    · exact absurd hz h0
    · omega
  have GOp := aA (Ap.out.outs GO.out)
  have hwc : w.heap.size ≤ wc.heap.size := Bc.out.size
  clear hK
  go_wp2_with fail
  refine (CV we.heap.size _ _ _ _ _ _ _ _ Rb GB 1 GOp.out (by omega) BD2.out (by omega) (by omega)).mono ?_
  rw [HKK.out]
  rintro e wr ⟨rfl, hOn, hRq⟩
  have Br := aA (pE.below Bp.out hOn (fun k hk => by have := PL.out k hk; omega) (Nat.le_refl _))
  have Sr := aA (pE.below Sp.out hOn (fun k hk => by have := PL.out k hk; omega) (Nat.le_refl _))
  have GQr := aA hRq
  clear hOn hRq GOp Bp Sp Ap
  have kq1 : decide (K < 0) = false := decide_eq_false (by omega)
  have kq1' : ¬ K < 0 := by omega
  have kq3 : (K != K) = false := by simp
  go_wp2_with fail
  refine (sW _ _ _ _ _ _ _ 1 GQr.out (by omega) BD2.out (by omega) (by omega)).mono ?_
  rw [HKK.out]
  rintro e w' ⟨rfl, hw'⟩
  obtain rfl := hw'.symm
  clear hw'
  go_wp2_with fail
  refine (mA _ _ _ _ _ _ _ _ (R2.out.below Br.out)).mono ?_
  rintro e wt ⟨Bt, rfl, hb, hr, ho⟩
  have Lt := aA (eE hr (fun i hi => (ho i hi).2) hn40 HL.out)
  have Bt' := aA (aB Br.out hb)
  have St := aA (aB Sr.out hb)
  have GQt := aA (GQr.out.below hb)
  clear hb hr ho Br Sr GQr
  go_wp2_with fail
  refine (HCI.out _ _ _ _ _ Lt.out).mono ?_
  rintro e wu ⟨ha, hc, had, hcp, Rb2, GB2, rfl, hb, hO⟩
  have UO := aA hO.rd
  have Bu := aA (aB Bt'.out hb)
  have Su := aA (aB St.out hb)
  have GQu := aA (GQt.out.below hb)
  clear hb hO Lt Bt' St GQt
  go_wp2_with fail
  refine (lT _ _ _ _ _ _ _ _ _ _ _ _ UO.out (SQ.out.below Su.out)).mono ?_
  rintro e wv ⟨rfl, hb⟩
  have Bv := aA (aB Bu.out hb)
  have GQv := aA (GQu.out.below hb)
  clear hb UO Bu Su GQu
  go_wp2_with fail
  refine (sW _ _ _ _ _ _ _ 1 GQv.out (by omega) BD2.out (by omega) (by omega)).mono ?_
  rw [HKK.out]
  rintro e w' ⟨rfl, hw'⟩
  obtain rfl := hw'.symm
  clear hw'
  go_wp2
  go_ret
  exact ⟨rfl, Bv.out⟩
theorem own : ownKnob Tryz.prog.godebug = none := by kernel_rfl
theorem laidOut : laidOutB Tryz.prog = true := by kernel_rfl
set_option maxRecDepth 100000 in
theorem lifted (os : Os) (started : os.Started) (H : Type) (enc : TypeId × Value → H) :
    ReturnsInHanded {} Tryz.checked os 3 .any (Rows.fnExactGrbLeastSpec.pre6 enc Tryz.prog Tryz.f3 Rows.fnExactGrbLeastRow.domain false) (Rows.fnExactGrbLeastSpec.post enc Tryz.prog Tryz.f3 false true false false) := by
  refine returnsInHanded_of_change (C := Tryz.checked) own started (by kernel_rfl) Tryz.func3
    (ChangeSpec.witness6 (enc := enc) (C := Tryz.checked) false ⟨#[], #[.int .i64 0, .slice none 0 0], []⟩ 8 (by kernel_rfl) (by kernel_rfl) (by kernel_rfl) (by kernel_rfl)) ?_
  intro W base args ds gs before hval0 hW hcnd _
  have hval : ∀ (j : Nat) t v, Tryz.f3.params[j]? = some t → args[j]? = some v → Value.okWide Tryz.prog W .any base t v := hval0
  have hW' := hW
  obtain ⟨p, q, hA0, hV, rfl, hfz, hnd⟩ := hW
  have hA : DataW.TrodAll enc Tryz.prog W 0 (fun _ => true) true Tryz.f3.params.toList args.toList ds p := hA0
  rw [Tryz.params3] at hA hval
  obtain ⟨v0, vs0, d0, ds0, p0, q0, hargs, rfl, rfl, h0, r0⟩ := trodAll_cons hA
  obtain ⟨v1, vs1, d1, ds1, p1, q1, rfl, rfl, rfl, h1, r1⟩ := trodAll_cons r0
  obtain ⟨rfl, rfl, rfl⟩ := trodAll_nil r1
  obtain rfl : args = #[v0, v1] := by cases args; simp_all
  obtain ⟨rfl, rfl⟩ := trodVars_none hV
  obtain ⟨x0, rfl, rfl, rfl, w0⟩ := open_int Tryz.underlying3 (hval 0 3 v0 rfl rfl) h0
  obtain ⟨a1, n1, c1, rfl⟩ := okWide_slice Tryz.underlying22 (hval 1 22 v1 rfl rfl)
  have k1 := h1
  have lt1 : ∀ x ∈ p1, x.block < W.heap.size := by obtain ⟨m, hm⟩ := k1; exact DataW.trod_lt m _ _ _ hm
  obtain ⟨ad1, ln1, cp1, f1, w1⟩ : ∃ ad ln cp f, kO W a1 n1 c1 ad ln cp f := by
    obtain ⟨fuel, hf⟩ := h1
    exact qY hf
  clear hA0 hval0
  refine (walk x0 a1 n1 c1 ad1 ln1 cp1 f1 W w1).mono fun e W' ⟨he, bel⟩ => ?_
  subst he
  exact ⟨_, rfl, _, _, _, [], _, [], hW', trodAll_mk1 (shut_bool Tryz.underlying4 _), (trodAll_cons_mk (shut_int Tryz.underlying3 w0) (trodAll_cons_mk (Below.trod laidOut (by kernel_rfl) (of_decide_eq_true (by kernel_rfl)) k1 bel lt1) trodAll_mk0)), rfl, bel.frame _, fun h => by cases h⟩
theorem over : Rows.fnExactGrbLeastRow.holds Tryz.pinned (OpenSpec.ofChange Rows.fnExactGrbLeastSpec) :=
  OpenClaim.holds_of_wide 3 Tryz.f3 rfl rfl rfl rfl rfl rfl rfl ⟨rfl, rfl, rfl, rfl, rfl⟩ rfl rfl rfl rfl rfl (by kernel_rfl) Tryz.func3 (by kernel_rfl)
    (of_decide_eq_true (by kernel_rfl)) (by unfold Func.isWrapper; first | (rw [if_pos (by decide +kernel)]; kernel_rfl) | (rw [if_neg (by decide +kernel)]; exact ⟨rfl, rfl⟩))
    (fun os started H enc _ => lifted os started H enc)
end Go.Proofs.YtdidlcjhodejjaaGreat.fnExactGrbLeast
namespace Go.Proofs.YtdidlcjhodejjaaGreat
theorem fnExactGrbLeast_holds : Rows.FnExactGrbLeastSaid := fnExactGrbLeast.over
#print axioms fnExactGrbLeast_holds
end Go.Proofs.YtdidlcjhodejjaaGreat
