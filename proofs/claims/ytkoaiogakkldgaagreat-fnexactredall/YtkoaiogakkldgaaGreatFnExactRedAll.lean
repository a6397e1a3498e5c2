/-
  FnExactRedAll: at every argument the program answers as its model; it writes into no argument, and its answer owns its memory.
-/
import Derived.Test.YtkoaiogakkldgaaGreatRaO
import Derived.Test.YtkoaiogakkldgaaGreatMarkO
import Derived.Test.YtkoaiogakkldgaaGreatLOpen
import Derived.ProofKit
import Derived.OpenShut
import Derived.Deep.RegionHeld3
import Derived.Deep.Light
namespace Go.Proofs.YtkoaiogakkldgaaGreat.fnExactRedAll
open Go.ChangeShapes Go.WideShapes Go.ChangeAt Go.RowKit Go.Deep Go.Joins
set_option linter.unusedVariables false

/-- blocks from lo on that were there are as they were. -/
structure Above (lo : Nat) (w w' : World) : Prop where
  size : w.heap.size ≤ w'.heap.size
  block : ∀ k, lo ≤ k → k < w.heap.size → w'.heap[k]? = w.heap[k]?
theorem Above.refl (lo : Nat) (w : World) : Above lo w w := ⟨Nat.le_refl _, fun _ _ _ => rfl⟩
theorem Above.next {lo : Nat} {w w' w'' : World} (h : Above lo w w') (hb : Below w'.heap.size w' w'') : Above lo w w'' := ⟨Nat.le_trans h.size hb.size, fun k hk hl => (hb.block k (Nat.lt_of_lt_of_le hl h.size)).trans (h.block k hk hl)⟩
theorem Above.grown {lo : Nat} {w w' w'' : World} {b : Nat} (h : Above lo w w') (hg : w'.grownBy w'' (some b)) (hb : b < lo) : Above lo w w'' :=
  ⟨Nat.le_trans h.size hg.size, fun k hk hl => (hg.block k (Nat.lt_of_lt_of_le hl h.size) (fun e => by have : k = b := (by simpa using e); omega)).trans (h.block k hk hl)⟩
theorem Above.apart {lo : Nat} {w w' w'' : World} {l hi : Nat} (h : Above lo w w') (hA : Apart l hi w' w'') (hh : hi ≤ lo) : Above lo w w'' :=
  ⟨by rw [hA.size]; exact h.size, fun k hk hl => (hA.block k (Nat.lt_of_lt_of_le hl h.size) (.inr (Nat.le_trans hh hk))).trans (h.block k hk hl)⟩
theorem Above.rd {lo : Nat} {w w' : World} (ha : Above lo w w') {a : Option Addr} {n cap : Nat} {f : Nat → T} (h : Rd w a n cap f) (hb : n = 0 ∨ ∀ b off, a = some ⟨b, off, none⟩ → lo ≤ b) : Rd w' a n cap f := by
  obtain ⟨h1, h2, h3⟩ := h
  refine ⟨h1, h2, ?_⟩
  rcases h3 with h0 | ⟨b, off, rfl, hlt, hc⟩
  · exact .inl h0
  · rcases hb with h0 | hb
    · exact .inl h0
    · exact .inr ⟨b, off, rfl, Nat.lt_of_lt_of_le hlt ha.size, fun i hi => (hc i hi).same (ha.block b (hb b off rfl) hlt)⟩
theorem Above.wr {lo : Nat} {w w' : World} (ha : Above lo w w') {a : Option Addr} {n : Nat} {f : Nat → T} (h : Wr w a n f) (hb : n = 0 ∨ ∀ b off, a = some ⟨b, off, none⟩ → lo ≤ b) : Wr w' a n f := by
  rcases h with h0 | ⟨g, off, N, F, rfl, hR, hN, hF⟩
  · exact .inl h0
  · rcases hb with h0 | hb
    · exact .inl h0
    · exact .inr ⟨g, off, N, F, rfl, hR.of_block (ha.block g (hb g off rfl) hR.lt), hN, hF⟩
theorem Above.outs {lo : Nat} {w w' : World} (ha : Above lo w w') {a : Option Addr} {n cap : Nat} {ad : Nat → Option Addr} {ln cp : Nat → Nat} {f : Nat → Nat → T} {R : Nat} {B : Nat → Nat} (h : OutS lo w a n cap ad ln cp f R B) : OutS lo w' a n cap ad ln cp f R B := by
  have hne : ∀ i, i < n → ln i = 0 ∨ ∀ b off, ad i = some ⟨b, off, none⟩ → lo ≤ b := fun i hi => (h.el i hi).imp id (fun ⟨off, e, h1, _⟩ b' off' e' => by
    rw [e] at e'; cases e'; exact h1)
  refine ⟨⟨h.rd.1, h.rd.2.1, ?_, fun i hi => ha.rd (h.rd.2.2.2 i hi) (hne i hi)⟩, h.row, fun i hi => ha.wr (h.wr i hi) (hne i hi), h.el, h.ap⟩
  rcases h.rd.2.2.1 with h0 | ⟨b', off, e, hlt, hc⟩
  · exact .inl h0
  · rcases h.row with h0 | ⟨off', e', hlo⟩
    · exact .inl h0
    · rw [e'] at e
      obtain ⟨rfl, rfl⟩ : R = b' ∧ off' = off := by simpa using e
      exact .inr ⟨R, off', e', Nat.lt_of_lt_of_le hlt ha.size, fun i hi => (World.cell?_of_block (a := ⟨R, off' + i, none⟩) (ha.block R hlo hlt)).trans (hc i hi)⟩
theorem Above.out {lo mid : Nat} {w w' : World} (ha : Above lo w w') {a : Option Addr} {c : Nat} {L : List T} (h : Out mid w a c L) (hm : lo ≤ mid) : Out mid w' a c L := by
  have hne : L.length = 0 ∨ ∀ b off, a = some ⟨b, off, none⟩ → lo ≤ b := h.2.2.imp id (fun ⟨g, off, e, h1⟩ b' off' e' => by
    rw [e] at e'; cases e'; omega)
  exact ⟨ha.rd h.1 hne, ha.wr h.2.1 hne, h.2.2⟩
theorem apart_below {lo hi : Nat} {v w w' : World} {B : Nat} (h : Below B v w) (hA : Apart lo hi w w') (hn : B ≤ lo) (hB : B ≤ v.heap.size) : Below B v w' :=
  ⟨hA.os.trans h.os, hA.tape.trans h.tape, hA.output.trans h.output, by rw [hA.size]; exact h.size, fun k hk => (hA.block k (Nat.lt_of_lt_of_le (Nat.lt_of_lt_of_le hk hB) h.size) (.inl (Nat.lt_of_lt_of_le hk hn))).trans (h.block k hk)⟩
/-- a copy of lists. -/
def Cp (w : World) (g n hi : Nat) (B ln : Nat → Nat) (f : Nat → Nat → T) : Prop := w.rowIs g 27 n (partS B ln n) ∧ ∀ i, i < n → g < B i ∧ B i < hi ∧ Own w (B i) (ln i) (f i)
theorem Cp.below {w w' : World} {g n hi : Nat} {B ln : Nat → Nat} {f : Nat → Nat → T} (h : Cp w g n hi B ln f) (hb : Below w.heap.size w w') : Cp w' g n hi B ln f :=
  ⟨h.1.of_block (hb.block g h.1.lt), fun i hi => ⟨(h.2 i hi).1, (h.2 i hi).2.1, (h.2 i hi).2.2.below hb (h.2 i hi).2.2.lt⟩⟩
theorem Cp.grown {w w' : World} {g n hi : Nat} {B ln : Nat → Nat} {f : Nat → Nat → T} {b : Nat} (h : Cp w g n hi B ln f) (hg : w.grownBy w' (some b)) (hb : b < g) : Cp w' g n hi B ln f :=
  ⟨h.1.of_block (hg.block g h.1.lt (by simp; omega)), fun i hi => ⟨(h.2 i hi).1, (h.2 i hi).2.1, (h.2 i hi).2.2.of_block (hg.block (B i) (h.2 i hi).2.2.lt (by have := (h.2 i hi).1; simp; omega))⟩⟩
/-- a row whose slices do not lie in a block. -/
theorem rds_grown {w w' : World} {a : Option Addr} {n cap : Nat} {ad : Nat → Option Addr} {ln cp : Nat → Nat} {f : Nat → Nat → T} (h : RdS w a n cap ad ln cp f) {b : Nat} (hg : w.grownBy w' (some b)) (h1 : n = 0 ∨ ∀ c off, a = some ⟨c, off, none⟩ → c ≠ b) (h2 : ∀ i, i < n → ln i = 0 ∨ ∀ c off, ad i = some ⟨c, off, none⟩ → c ≠ b) : RdS w' a n cap ad ln cp f := by
  refine ⟨h.1, h.2.1, ?_, fun i hi => (h.2.2.2 i hi).grown hg ((h2 i hi).imp id (fun hh c off e e' => hh c off e (by simpa using e')))⟩
  rcases h.2.2.1 with h0 | ⟨c, off, e, hlt, hc⟩
  · exact .inl h0
  · rcases h1 with h0 | h1
    · exact .inl h0
    · exact .inr ⟨c, off, e, Nat.lt_of_lt_of_le hlt hg.size, fun i hi => (World.cell?_of_block (a := ⟨c, off + i, none⟩) (hg.block c hlt (fun e2 => h1 c off e (by simpa using e2)))).trans (hc i hi)⟩
set_option maxRecDepth 100000 in
set_option maxHeartbeats 16000000 in
theorem walk (x0 : Int) (a1 : Option Addr) (n1 c1 : Nat) (f1 : Nat → T) (a2 : Option Addr) (n2 c2 : Nat) (ad2 : Nat → Option Addr) (ln2 cp2 : Nat → Nat) (f2 : Nat → Nat → T) (w : World) (h1 : IsTerms w a1 n1 c1 f1) (h2 : IsLists w a2 n2 c2 ad2 ln2 cp2 f2) : Calls Tryz.prog 3 #[.int .i64 x0, .slice a1 n1 c1, .slice a2 n2 c2] w fun e w' => e = .returned (.bool true) ∧ Below w.heap.size w w' := by
  have q1 : (n1 : Int) ≤ 9223372036854775807 := by have := h1.1; have := h1.2.1; unfold maxLen at this; omega
  have q0 : (n2 : Int) ≤ 9223372036854775807 := by have := h2.1; have := h2.2.1; unfold maxLen at this; omega
  have q2 : ∀ i, i < n2 → (ln2 i : Int) ≤ 9223372036854775807 := fun i hi => by have h := h2.2.2.2 i hi; have := h.1; have := h.2.1; unfold maxLen at this; omega
  have H2 := Hid.mk' h2
  have H1 := Hid.mk' h1
  have Q2 := Hid.mk' q2
  clear h1 h2 q2
  by_cases b1 : (n1 : Int) ≤ 1048576
  · have s1 : (0 : Int) ≤ (1048576 : Int) - n1 := by omega
    have k1 : n1 * 40 ≤ 140737488351232 := by omega
    obtain ⟨p, rfl, hpp⟩ := list_of (H1.out.rd k1)
    have R1 : Hid (Rd w a1 p.length c1 (lf p)) := hpp
    obtain ⟨l1, hl1⟩ : ∃ l1 : Int, (1048576 : Int) - p.length = l1 := ⟨_, rfl⟩
    have s2 : 0 ≤ l1 := by omega
    have s3 : l1 ≤ 1048576 := by omega
    go_enter Tryz.func3, Tryz.ntmps3
    go_wp2_with fail
    refine (szTerms _ _ _ _ _ q1 (by omega) (by omega)).mono ?_
    rw [if_neg (Int.not_lt.2 s1), hl1]
    rintro e w' ⟨rfl, hw'⟩
    obtain rfl := hw'.symm
    clear hw' H1 hl1 s1 hpp
    go_wp2_with fail
    refine (szLists a2 n2 c2 ad2 ln2 cp2 l1 w q0 s2 s3 H2.out.2.2.1 Q2.out).mono ?_
    rintro e w' ⟨z, rfl, hw', hz1, hz⟩
    obtain rfl := hw'.symm
    clear hw' Q2
    by_cases hneg : z < 0
    · go_wp2
      go_ret
      exact ⟨rfl, Below.refl _ _⟩
    · have hb := hz (by omega)
      have hn40 : n2 * 40 ≤ 140737488351232 := by omega
      have hl40 : ∀ i, i < n2 → ln2 i * 40 ≤ 140737488351232 := fun i hi => by have := hb.2 i hi; omega
      have m2 : n2 ≤ 1048576 := by have := hb.1; omega
      have M2 : Hid (∀ i, i < n2 → ln2 i ≤ 1048576) := fun i hi => by have := hb.2 i hi; omega
      have R2 := Hid.mk' (H2.out.rd hn40 hl40)
      have HL := Hid.mk' hl40
      clear hz hb hl40 H2
      obtain ⟨R, hR⟩ : ∃ R, redAll x0 p n2 ln2 f2 = R := ⟨_, rfl⟩
      obtain ⟨bd1, bd2, bd3⟩ := res_bd (o := x0) (p := p) (n := n2) (ln := ln2) (f := f2)
      rw [hR] at bd1 bd2 bd3
      have HR := Hid.mk' hR
      have BD2 : Hid (∀ i, i < resN n2 R → (resQ R i).length ≤ 1048576) := fun i _ => by have := bd2 i; omega
      have hnb : (R.isSome != R.isSome) = false := by simp
      clear hR bd2
      have hl3 : ((resL R).length : Int) ≤ 300 := by omega
      have hn3 : (resN n2 R : Int) ≤ 12 := by omega
      -- the model
      go_wp2_with fail
      refine (toTerms _ _ _ _ (lf p) R1.out).mono ?_
      rintro e wa ⟨rfl, hb, ho⟩
      have Ba := Hid.mk' hb
      have Oa := Hid.mk' ho
      clear hb ho
      go_wp2_with fail
      refine (toLists _ _ _ _ _ _ _ _ (R2.out.below Ba.out)).mono ?_
      rintro e wb ⟨Bb, rfl, hb, hr, ho⟩
      have Lb := Hid.mk' (lists_rd hr (fun i hi => (ho i hi).2) hn40 HL.out)
      have Ob := Hid.mk' (Oa.out.below hb Oa.out.lt)
      have Bb' := Hid.mk' (bel_next Ba.out hb)
      clear hb hr ho Ba Oa
      go_wp2_with fail
      refine (redAllS _ x0 _ _ p _ _ _ _ _ _ _ (Ob.out.rd (by omega)) Lb.out HR.out).mono ?_
      rintro e wc ⟨sa, sc, sad, scp, ra, rc, rfl, hb, hs, hr⟩
      have Bc := Hid.mk' (bel_next Bb'.out hb)
      have SQ := Hid.mk' hs
      have SL : Hid (Rd wc ra (resL R).length rc (lf (resL R))) := hr
      clear hb hs hr Lb Ob Bb'
      -- the arguments
      go_wp2_with fail
      refine (toTerms _ _ _ _ (lf p) (R1.out.below Bc.out)).mono ?_
      rintro e wd ⟨rfl, hb, ho⟩
      have Bd := Hid.mk' (bel_next Bc.out hb)
      have Sd := Hid.mk' hb
      have Xd := Hid.mk' ho
      have zd : wc.heap.size < wd.heap.size := ho.lt
      clear hb ho
      go_wp2_with fail
      refine (toLists2 _ _ _ _ _ _ _ _ (R2.out.below Bd.out)).mono ?_
      rintro e we ⟨C, rfl, hb, hr, ho, hD⟩
      have Ye : Hid (Cp we wd.heap.size n2 we.heap.size C ln2 f2) := ⟨hr, fun i hi => ⟨(ho i hi).1, (ho i hi).2.lt, (ho i hi).2⟩⟩
      have DC := Hid.mk' hD
      have Xe := Hid.mk' (Xd.out.below hb Xd.out.lt)
      have Be := Hid.mk' (bel_next Bd.out hb)
      have Se := Hid.mk' (bel_next Sd.out hb)
      have ze : wd.heap.size ≤ we.heap.size := hb.size
      clear hb hr ho hD Xd Bd Sd
      -- the program
      go_wp2_with fail
      refine (redAllI' _ x0 _ _ p _ _ _ _ _ _ _ (Xe.out.rd (by omega)) (lists_rd Ye.out.1 (fun i hi => (Ye.out.2 i hi).2.2) hn40 HL.out) HR.out).mono ?_
      rintro e wf ⟨ga, gc, gad, gcp, Rb, GB, la, lc, mid, rfl, hb, hO, hL, hm1, hm2, hm3⟩
      have GO := Hid.mk' hO
      have GL := Hid.mk' hL
      have GM := Hid.mk' (And.intro hm1 (And.intro hm2 hm3))
      have Bf := Hid.mk' (bel_next Be.out hb)
      have Sf := Hid.mk' (bel_next Se.out hb)
      have Xf := Hid.mk' hb
      have Af := Hid.mk' (Above.refl we.heap.size wf)
      clear hb hO hL hm1 hm2 hm3 Be Se

      go_wp2_with fail
      refine (eqLists _ _ _ _ _ _ _ _ _ _ _ _ (Af.out.outs GO.out).rd (SQ.out.below Sf.out)).mono ?_
      rintro e wg ⟨rfl, hb⟩
      have Bg := Hid.mk' (bel_next Bf.out hb)
      have Sg := Hid.mk' (bel_next Sf.out hb)
      have Xg := Hid.mk' (bel_next Xf.out hb)
      have Ag := Hid.mk' (Af.out.next hb)
      clear hb Bf Sf Xf Af
      go_wp2_with fail
      refine (eqTerms _ _ _ _ _ _ _ _ _ (Ag.out.out GL.out GM.out.2.2).1 (SL.out.below Sg.out)).mono ?_
      rw [termsEq_same]
      rintro e wh ⟨rfl, hb⟩
      have Bh := Hid.mk' (bel_next Bg.out hb)
      have Sh := Hid.mk' (bel_next Sg.out hb)
      have Xh := Hid.mk' (bel_next Xg.out hb)
      have Ah := Hid.mk' (Ag.out.next hb)
      clear hb Bg Sg Xg Ag
      go_wp2_with fail
      refine (toTerms _ _ _ _ (lf p) (R1.out.below Bh.out)).mono ?_
      rintro e wi ⟨rfl, hb, ho⟩
      have Bi := Hid.mk' (bel_next Bh.out hb)
      have Si := Hid.mk' (bel_next Sh.out hb)
      have Xi := Hid.mk' (bel_next Xh.out hb)
      have Ai := Hid.mk' (Ah.out.next hb)
      have Oi := Hid.mk' ho
      clear ho
      clear hb Bh Sh Xh Ah
      go_wp2_with fail
      refine (eqTerms _ _ _ _ _ _ _ _ _ ((Xe.out.below Xi.out Xe.out.lt).rd (by omega)) (Oi.out.rd (by omega))).mono ?_
      rw [termsEq_same]
      rintro e wj ⟨rfl, hb⟩
      have Bj := Hid.mk' (bel_next Bi.out hb)
      have Sj := Hid.mk' (bel_next Si.out hb)
      have Xj := Hid.mk' (bel_next Xi.out hb)
      have Aj := Hid.mk' (Ai.out.next hb)
      clear hb Bi Si Xi Ai Oi
      go_wp2_with fail
      refine (toLists _ _ _ _ _ _ _ _ (R2.out.below Bj.out)).mono ?_
      rintro e wk ⟨Bk', rfl, hb, hr, ho⟩
      have Bk := Hid.mk' (bel_next Bj.out hb)
      have Sk := Hid.mk' (bel_next Sj.out hb)
      have Xk := Hid.mk' (bel_next Xj.out hb)
      have Ak := Hid.mk' (Aj.out.next hb)
      have Lk := Hid.mk' (lists_rd hr (fun i hi => (ho i hi).2) hn40 HL.out)
      clear hr ho
      clear hb Bj Sj Xj Aj
      go_wp2_with fail
      refine (eqLists _ _ _ _ _ _ _ _ _ _ _ _ (lists_rd (Ye.out.below Xk.out).1 (fun i hi => ((Ye.out.below Xk.out).2 i hi).2.2) hn40 HL.out) Lk.out).mono ?_
      rintro e wl ⟨rfl, hb⟩
      have Bl := Hid.mk' (bel_next Bk.out hb)
      have Sl := Hid.mk' (bel_next Sk.out hb)
      have Xl := Hid.mk' (bel_next Xk.out hb)
      have Al := Hid.mk' (Ak.out.next hb)
      clear hb Bk Sk Xk Ak
      -- the arguments are marked
      have Xo := Hid.mk' (Xe.out.below Xl.out Xe.out.lt)
      have Yo := Hid.mk' (Ye.out.below Xl.out)
      go_wp2_with fail
      refine (markTerms _ _ _ _ (lf p) 1 Xo.out.wr (by omega) (by omega) (by omega)).mono ?_
      rintro e wm ⟨rfl, hg, hz, _, _⟩
      have hg : wl.grownBy wm (some wc.heap.size) := hg
      have Bm := Hid.mk' (Bl.out.grown hg Bl.out.size (fun k e => by cases e; exact Bc.out.size))
      have Sm := Hid.mk' (Sl.out.grown hg Sl.out.size (fun k e => by cases e; exact Nat.le_refl _))
      have Am := Hid.mk' (Al.out.grown hg (by omega))
      have Ym := Hid.mk' (Yo.out.grown hg zd)
      clear hg hz Xo Yo Bl Sl Al Xl
      go_wp2_with fail
      refine (markLists _ _ _ we.heap.size C ln2 f2 (1 + 5 * p.length) Ym.out.1 Ym.out.2 DC.out m2 M2.out (by omega) (by omega)).mono ?_
      rintro e wn ⟨x2, rfl, x20, x21, hA⟩
      have Bn := Hid.mk' (apart_below Bm.out hA (by have := Bc.out.size; omega) (Nat.le_refl _))
      have Sn := Hid.mk' (apart_below Sm.out hA (by omega) (Nat.le_refl _))
      have An := Hid.mk' (Am.out.apart hA (Nat.le_refl _))
      clear hA Bm Sm Am Ym
      have dk : decide (x2 < 0) = false := decide_eq_false (by omega)
      have dk' : ¬ x2 < 0 := by omega
      go_wp2_with fail
      refine (eqLists _ _ _ _ _ _ _ _ _ _ _ _ (An.out.outs GO.out).rd (SQ.out.below Sn.out)).mono ?_
      rintro e wo ⟨rfl, hb⟩
      have Bo := Hid.mk' (bel_next Bn.out hb)
      have So := Hid.mk' (bel_next Sn.out hb)
      have Ao := Hid.mk' (An.out.next hb)
      clear hb Bn Sn An
      go_wp2_with fail
      refine (eqTerms _ _ _ _ _ _ _ _ _ (Ao.out.out GL.out GM.out.2.2).1 (SL.out.below So.out)).mono ?_
      rw [termsEq_same]
      rintro e wp ⟨rfl, hb⟩
      have Bp := Hid.mk' (bel_next Bo.out hb)
      have Sp := Hid.mk' (bel_next So.out hb)
      have Ap := Hid.mk' (Ao.out.next hb)
      clear hb Bo So Ao
      -- the answer is marked
      obtain ⟨K, hK⟩ : ∃ K, ksum 1 (fun i => (resQ R i).length) (resN n2 R) = K := ⟨_, rfl⟩
      have hKb := ksum_bd (k := 1) (ln := fun i => (resQ R i).length) (n := resN n2 R) BD2.out (resN n2 R) (Nat.le_refl _)
      rw [hK] at hKb
      obtain ⟨hk1, hk2⟩ := hKb
      have HKK := Hid.mk' hK
      have PL : Hid (∀ k, (∃ i, i < resN n2 R ∧ (resQ R i).length ≠ 0 ∧ GB i = k) → we.heap.size ≤ k ∧ k < mid) := fun k ⟨i, hi, h0, e⟩ => by
        rcases GO.out.el i hi with hz | ⟨_, _, h2, _⟩
        · exact absurd hz h0
        · have := GM.out.2.1 i hi h0
          omega
      have GLp := Hid.mk' (Ap.out.out GL.out GM.out.2.2)
      have GOp := Hid.mk' (Ap.out.outs GO.out)
      have hwc : w.heap.size ≤ wc.heap.size := Bc.out.size
      clear hK
      go_wp2_with fail
      refine (markListsO we.heap.size _ _ _ _ _ _ _ _ Rb GB 1 GOp.out (by omega) BD2.out (by omega) (by omega)).mono ?_
      rw [HKK.out]
      rintro e wq ⟨rfl, hOn, hRq⟩
      have Bq := Hid.mk' (Only.below Bp.out hOn (fun k hk => by have := PL.out k hk; omega) (Nat.le_refl _))
      have Sq := Hid.mk' (Only.below Sp.out hOn (fun k hk => by have := PL.out k hk; omega) (Nat.le_refl _))
      have hnP : (resL R).length = 0 ∨ ∀ b off, la = some ⟨b, off, none⟩ → ¬ ∃ i, i < resN n2 R ∧ (resQ R i).length ≠ 0 ∧ GB i = b := by
        rcases GL.out.2.2 with h0 | ⟨g, off, e, hg⟩
        · exact .inl h0
        · refine .inr fun b off' e' hh => ?_
          rw [e] at e'; cases e'
          have := PL.out _ hh
          omega
      have GLq := Hid.mk' (And.intro (hOn.rd GLp.out.1 hnP) (hOn.wr GLp.out.2.1 hnP))
      have GQq := Hid.mk' hRq
      clear hOn hRq hnP GLp GOp Bp Sp Ap
      go_wp2_with fail
      refine (markTerms _ _ _ _ _ K GLq.out.2 (by omega) (by omega) (by omega)).mono ?_
      rintro e wr ⟨rfl, hg, hz, hw, hsame⟩
      have hla : (resL R).length ≠ 0 → ∃ g off, la = some ⟨g, off, none⟩ ∧ mid ≤ g := fun h0 => by
        rcases GL.out.2.2 with h | h
        · exact absurd h h0
        · exact h
      have Br : Hid (Below w.heap.size w wr) := by
        by_cases hl : (resL R).length = 0
        · rw [hsame hl]; exact Bq.out
        · obtain ⟨g, off, e, hgm⟩ := hla hl
          rw [e] at hg
          exact Bq.out.grown hg Bq.out.size (fun k e' => by cases e'; have := GM.out.2.2; show w.heap.size ≤ g; omega)
      have Sr : Hid (Below wc.heap.size wc wr) := by
        by_cases hl : (resL R).length = 0
        · rw [hsame hl]; exact Sq.out
        · obtain ⟨g, off, e, hgm⟩ := hla hl
          rw [e] at hg
          exact Sq.out.grown hg Sq.out.size (fun k e' => by cases e'; have := GM.out.2.2; show wc.heap.size ≤ g; omega)
      have GQr : Hid (RdS wr ga (resN n2 R) gc gad (fun i => (resQ R i).length) gcp (fun i => mk (ksum 1 (fun i => (resQ R i).length) i))) := by
        by_cases hl : (resL R).length = 0
        · rw [hsame hl]; exact GQq.out
        · obtain ⟨g, off, e, hgm⟩ := hla hl
          rw [e] at hg
          refine rds_grown GQq.out (show wq.grownBy wr (some g) from hg) ?_ (fun i hi => ?_)
          · rcases GM.out.1 with h0 | h0
            · exact .inl h0
            · rcases GO.out.row with h1 | ⟨off', e', _⟩
              · exact .inl h1
              · refine .inr fun c off2 e2 e3 => ?_
                rw [e'] at e2; cases e2
                omega
          · rcases GO.out.el i hi with h1 | ⟨off', e', _, _⟩
            · exact .inl h1
            · by_cases h0 : (resQ R i).length = 0
              · exact .inl h0
              · refine .inr fun c off2 e2 e3 => ?_
                rw [e'] at e2; cases e2
                have := GM.out.2.1 i hi h0
                omega
      have GLr : Hid (Rd wr la (resL R).length lc (mk K)) := by
        by_cases hl : (resL R).length = 0
        · exact ⟨GL.out.1.1, GL.out.1.2.1, .inl hl⟩
        · exact hw.rd GL.out.1.1 (by omega)
      clear hg hz hw hsame hla GLq GQq Bq Sq
      have kq1 : decide (K < 0) = false := decide_eq_false (by omega)
      have kq1' : ¬ K < 0 := by omega
      have kq2 : decide (K + 5 * ((resL R).length : Int) < 0) = false := decide_eq_false (by omega)
      have kq2' : ¬ K + 5 * ((resL R).length : Int) < 0 := by omega
      have kq3 : ((K + 5 * ((resL R).length : Int)) != (K + 5 * ((resL R).length : Int))) = false := by simp
      go_wp2_with fail
      refine (heldLists _ _ _ _ _ _ _ 1 GQr.out (by omega) BD2.out (by omega) (by omega)).mono ?_
      rw [HKK.out]
      rintro e w' ⟨rfl, hw'⟩
      obtain rfl := hw'.symm
      clear hw'
      go_wp2_with fail
      refine (heldTerms _ _ _ _ K GLr.out (by omega) (by omega)).mono ?_
      rintro e w' ⟨rfl, hw'⟩
      obtain rfl := hw'.symm
      clear hw'
      -- once more
      go_wp2_with fail
      refine (toTerms _ _ _ _ (lf p) (R1.out.below Br.out)).mono ?_
      rintro e ws ⟨rfl, hb, ho⟩
      have Os := Hid.mk' ho
      have Bs := Hid.mk' (bel_next Br.out hb)
      have Ss := Hid.mk' (bel_next Sr.out hb)
      have GQs := Hid.mk' (GQr.out.below hb)
      have GLs := Hid.mk' (GLr.out.below hb)
      clear hb ho Br Sr GQr GLr
      go_wp2_with fail
      refine (toLists _ _ _ _ _ _ _ _ (R2.out.below Bs.out)).mono ?_
      rintro e wt ⟨Bt, rfl, hb, hr, ho⟩
      have Lt := Hid.mk' (lists_rd hr (fun i hi => (ho i hi).2) hn40 HL.out)
      have Ot := Hid.mk' (Os.out.below hb Os.out.lt)
      have Bt' := Hid.mk' (bel_next Bs.out hb)
      have St := Hid.mk' (bel_next Ss.out hb)
      have GQt := Hid.mk' (GQs.out.below hb)
      have GLt := Hid.mk' (GLs.out.below hb)
      clear hb hr ho Os Bs Ss GQs GLs
      go_wp2_with fail
      refine (redAllI' _ x0 _ _ p _ _ _ _ _ _ _ (Ot.out.rd (by omega)) Lt.out HR.out).mono ?_
      rintro e wu ⟨ha, hc, had, hcp, Rb2, GB2, la2, lc2, mid2, rfl, hb, hO, hL, _, _, _⟩
      have UO := Hid.mk' hO.rd
      have UL := Hid.mk' hL.1
      have Bu := Hid.mk' (bel_next Bt'.out hb)
      have Su := Hid.mk' (bel_next St.out hb)
      have GQu := Hid.mk' (GQt.out.below hb)
      have GLu := Hid.mk' (GLt.out.below hb)
      clear hb hO hL Lt Ot Bt' St GQt GLt
      go_wp2_with fail
      refine (eqLists _ _ _ _ _ _ _ _ _ _ _ _ UO.out (SQ.out.below Su.out)).mono ?_
      rintro e wv ⟨rfl, hb⟩
      have UL2 := Hid.mk' (UL.out.below hb)
      have Bv := Hid.mk' (bel_next Bu.out hb)
      have Sv := Hid.mk' (bel_next Su.out hb)
      have GQv := Hid.mk' (GQu.out.below hb)
      have GLv := Hid.mk' (GLu.out.below hb)
      clear hb UO UL Bu Su GQu GLu
      go_wp2_with fail
      refine (eqTerms _ _ _ _ _ _ _ _ _ UL2.out (SL.out.below Sv.out)).mono ?_
      rw [termsEq_same]
      rintro e wx ⟨rfl, hb⟩
      have Bx := Hid.mk' (bel_next Bv.out hb)
      have GQx := Hid.mk' (GQv.out.below hb)
      have GLx := Hid.mk' (GLv.out.below hb)
      clear hb UL2 Bv Sv GQv GLv
      go_wp2_with fail
      refine (heldLists _ _ _ _ _ _ _ 1 GQx.out (by omega) BD2.out (by omega) (by omega)).mono ?_
      rw [HKK.out]
      rintro e w' ⟨rfl, hw'⟩
      obtain rfl := hw'.symm
      clear hw'
      go_wp2_with fail
      refine (heldTerms _ _ _ _ K GLx.out (by omega) (by omega)).mono ?_
      rintro e w' ⟨rfl, hw'⟩
      obtain rfl := hw'.symm
      clear hw'
      go_wp2
      go_ret
      exact ⟨rfl, Bx.out⟩
  · have s1 : (1048576 : Int) - n1 < 0 := by omega
    go_enter Tryz.func3, Tryz.ntmps3
    go_wp2_with fail
    refine (szTerms _ _ _ _ _ q1 (by omega) (by omega)).mono ?_
    rw [if_pos s1]
    rintro e w' ⟨rfl, hw'⟩
    obtain rfl := hw'.symm
    clear hw'
    go_wp2
    go_ret
    exact ⟨rfl, Below.refl _ _⟩
theorem own : ownKnob Tryz.prog.godebug = none := by kernel_rfl
theorem laidOut : laidOutB Tryz.prog = true := by kernel_rfl
set_option maxRecDepth 100000 in
theorem lifted (os : Os) (started : os.Started) (H : Type) (enc : TypeId × Value → H) :
    ReturnsInHanded {} Tryz.checked os 3 .any (Rows.fnExactRedAllSpec.pre6 enc Tryz.prog Tryz.f3 Rows.fnExactRedAllRow.domain false) (Rows.fnExactRedAllSpec.post enc Tryz.prog Tryz.f3 false true false false) := by
  refine returnsInHanded_of_change (C := Tryz.checked) own started (by kernel_rfl) Tryz.func3
    (ChangeSpec.witness6 (enc := enc) (C := Tryz.checked) false ⟨#[], #[.int .i64 0, .slice none 0 0, .slice none 0 0], []⟩ 8 (by kernel_rfl) (by kernel_rfl) (by kernel_rfl) (by kernel_rfl)) ?_
  intro W base args ds gs before hval0 hW hcnd _
  have hval : ∀ (j : Nat) t v, Tryz.f3.params[j]? = some t → args[j]? = some v → Value.okWide Tryz.prog W .any base t v := hval0
  have hW' := hW
  obtain ⟨p, q, hA0, hV, rfl, hfz, hnd⟩ := hW
  have hA : DataW.TrodAll enc Tryz.prog W 0 (fun _ => true) true Tryz.f3.params.toList args.toList ds p := hA0
  rw [Tryz.params3] at hA hval
  obtain ⟨v0, vs0, d0, ds0, p0, q0, hargs, rfl, rfl, h0, r0⟩ := trodAll_cons hA
  obtain ⟨v1, vs1, d1, ds1, p1, q1, rfl, rfl, rfl, h1, r1⟩ := trodAll_cons r0
  obtain ⟨v2, vs2, d2, ds2, p2, q2, rfl, rfl, rfl, h2, r2⟩ := trodAll_cons r1
  obtain ⟨rfl, rfl, rfl⟩ := trodAll_nil r2
  obtain rfl : args = #[v0, v1, v2] := by cases args; simp_all
  obtain ⟨rfl, rfl⟩ := trodVars_none hV
  obtain ⟨x0, rfl, rfl, rfl, w0⟩ := open_int Tryz.underlying3 (hval 0 3 v0 rfl rfl) h0
  obtain ⟨a1, n1, c1, rfl⟩ := okWide_slice Tryz.underlying22 (hval 1 22 v1 rfl rfl)
  have k1 := h1
  have lt1 : ∀ x ∈ p1, x.block < W.heap.size := by obtain ⟨m, hm⟩ := k1; exact DataW.trod_lt m _ _ _ hm
  obtain ⟨f1, w1⟩ : ∃ f, IsTerms W a1 n1 c1 f := by
    obtain ⟨fuel, hf⟩ := h1
    exact terms_open hf
  obtain ⟨a2, n2, c2, rfl⟩ := okWide_slice Tryz.underlying23 (hval 2 23 v2 rfl rfl)
  have k2 := h2
  have lt2 : ∀ x ∈ p2, x.block < W.heap.size := by obtain ⟨m, hm⟩ := k2; exact DataW.trod_lt m _ _ _ hm
  obtain ⟨ad2, ln2, cp2, f2, w2⟩ : ∃ ad ln cp f, IsLists W a2 n2 c2 ad ln cp f := by
    obtain ⟨fuel, hf⟩ := h2
    exact lists_open hf
  clear hA0 hval0
  refine (walk x0 a1 n1 c1 f1 a2 n2 c2 ad2 ln2 cp2 f2 W w1 w2).mono fun e W' ⟨he, bel⟩ => ?_
  subst he
  exact ⟨_, rfl, _, _, _, [], _, [], hW', trodAll_mk1 (shut_bool Tryz.underlying4 _), (trodAll_cons_mk (shut_int Tryz.underlying3 w0) (trodAll_cons_mk (Below.trod laidOut (by kernel_rfl) (of_decide_eq_true (by kernel_rfl)) k1 bel lt1) (trodAll_cons_mk (Below.trod laidOut (by kernel_rfl) (of_decide_eq_true (by kernel_rfl)) k2 bel lt2) trodAll_mk0))), rfl, bel.frame _, fun h => by cases h⟩
theorem over : Rows.fnExactRedAllRow.holds Tryz.pinned (OpenSpec.ofChange Rows.fnExactRedAllSpec) :=
  OpenClaim.holds_of_wide 3 Tryz.f3 rfl rfl rfl rfl rfl rfl rfl ⟨rfl, rfl, rfl, rfl, rfl⟩ rfl rfl rfl rfl rfl (by kernel_rfl) Tryz.func3 (by kernel_rfl)
    (of_decide_eq_true (by kernel_rfl)) (by unfold Func.isWrapper; first | (rw [if_pos (by decide +kernel)]; kernel_rfl) | (rw [if_neg (by decide +kernel)]; exact ⟨rfl, rfl⟩))
    (fun os started H enc _ => lifted os started H enc)
end Go.Proofs.YtkoaiogakkldgaaGreat.fnExactRedAll
namespace Go.Proofs.YtkoaiogakkldgaaGreat
theorem fnExactRedAll_holds : Rows.FnExactRedAllSaid := fnExactRedAll.over
#print axioms fnExactRedAll_holds
end Go.Proofs.YtkoaiogakkldgaaGreat
