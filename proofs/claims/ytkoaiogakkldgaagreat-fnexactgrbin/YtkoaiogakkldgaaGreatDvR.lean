/-
  A division to its end: the closure of the program's RedAll.
-/
import Derived.Test.YtkoaiogakkldgaaGreatDvA
namespace Go.Proofs.YtkoaiogakkldgaaGreat
open Go.RowKit Go.Deep Go.Joins Go.Maps
set_option linter.unusedVariables false
set_option linter.unusedSimpArgs false

set_option maxHeartbeats 2000000 in
theorem doneI (X : DvP) (w : World) (fu u N : Nat) (S : Dv) (h : DvW X w fu u N S) (hp : Falls S.p) (b : Bool) (hb : ((S.p.length : Int) == 0) = b) :
    Calls Tryz.prog 27 #[.pointer (some ⟨X.Bd, 0, none⟩)] w fun r w' => r = .returned (.bool b) ∧ w' = w := by
  have hlen := h.rs.len hp 3
  have k3 := h.c3
  clear h
  go_enter Tryz.func27, Tryz.ntmps27
  go_wp2
  go_ret
  exact ⟨rfl, rfl⟩
theorem Turn.cell {X : DvP} {w w' : World} (h : Turn X w w') {fu u N : Nat} {S : Dv} (hd : DvW X w fu u N S) {b o : Nat} {v : Value} (hc : w.cell? ⟨b, o, none⟩ = some v) (hne : b ≠ X.Bd) : w'.cell? ⟨b, o, none⟩ = some v :=
  (World.cell?_of_block (a := ⟨b, o, none⟩) (h.block b (World.block_lt_of_cell? w _ hc) hne (hd.rs.ne_cell hc) (hd.lf.ne_cell hc) (fun i hi => (hd.tq i hi).ne_cell hc))).trans hc
theorem Turn.frozen {X : DvP} {w w' : World} (h : Turn X w w') {fu u N : Nat} {S : Dv} (hd : DvW X w fu u N S) {b o : Nat} {v : Value} (hc : w.cell? ⟨b, o, none⟩ = some v) (hne : b ≠ X.Bd) {z : Bool} (hz : w.frozen? ⟨b, o, none⟩ = z) : w'.frozen? ⟨b, o, none⟩ = z :=
  (World.frozen?_of_block (a := ⟨b, o, none⟩) (h.block b (World.block_lt_of_cell? w _ hc) hne (hd.rs.ne_cell hc) (hd.lf.ne_cell hc) (fun i hi => (hd.tq i hi).ne_cell hc))).trans hz
/-- the fuel that is left. -/
def fuelOf (b : Nat) (w : World) : Nat := match w.cell? ⟨b, 6, none⟩ with
  | some (.int .i64 z) => z.toNat
  | _ => 0
theorem DvW.fuel {X : DvP} {w : World} {fu u N : Nat} {S : Dv} (h : DvW X w fu u N S) : fuelOf X.Bd w = fu := by
  unfold fuelOf
  rw [h.c6]
  simp
theorem OutS.far {lo : Nat} {w w' : World} {a : Option Addr} {n cap : Nat} {ad : Nat → Option Addr} {ln cp : Nat → Nat} {f : Nat → Nat → T} {R : Nat} {B : Nat → Nat} (h : OutS lo w a n cap ad ln cp f R B) {b : Nat} (hg : w.grownBy w' (some b)) (hb : b < lo) : OutS lo w' a n cap ad ln cp f R B := by
  have hne : ∀ i, i < n → ln i = 0 ∨ ∀ b' off, ad i = some ⟨b', off, none⟩ → some b' ≠ some b := fun i hi => (h.el i hi).imp id (fun ⟨off, e, h1, _⟩ b' off' e' e2 => by
    rw [e] at e'; cases e'
    have : B i = b := by simpa using e2
    omega)
  refine ⟨⟨h.rd.1, h.rd.2.1, ?_, fun i hi => (h.rd.2.2.2 i hi).grown hg (hne i hi)⟩, h.row, fun i hi => (h.wr i hi).grown hg (hne i hi), h.el, h.ap⟩
  rcases h.rd.2.2.1 with h0 | ⟨b', off, e, hlt, hc⟩
  · exact .inl h0
  · rcases h.row with h0 | ⟨off', e', hlo⟩
    · exact .inl h0
    · rw [e'] at e
      obtain ⟨rfl, rfl⟩ : R = b' ∧ off' = off := by simpa using e
      exact .inr ⟨R, off', e', Nat.lt_of_lt_of_le hlt hg.size, fun i hi => (World.cell?_of_block (a := ⟨R, off' + i, none⟩) (hg.block R hlt (fun e2 => by
        have : R = b := by simpa using e2
        omega))).trans (hc i hi)⟩
theorem OutS.low {lo lo' : Nat} {w : World} {a : Option Addr} {n cap : Nat} {ad : Nat → Option Addr} {ln cp : Nat → Nat} {f : Nat → Nat → T} {R : Nat} {B : Nat → Nat} (h : OutS lo w a n cap ad ln cp f R B) (hl : lo' ≤ lo) : OutS lo' w a n cap ad ln cp f R B :=
  ⟨h.rd, h.row.imp id (fun ⟨off, e, h1⟩ => ⟨off, e, Nat.le_trans hl h1⟩), h.wr, fun i hi => (h.el i hi).imp id (fun ⟨off, e, h1, h2⟩ => ⟨off, e, Nat.le_trans hl h1, h2⟩), h.ap⟩
theorem OutS.below {lo : Nat} {w w' : World} {a : Option Addr} {n cap : Nat} {ad : Nat → Option Addr} {ln cp : Nat → Nat} {f : Nat → Nat → T} {R : Nat} {B : Nat → Nat} (h : OutS lo w a n cap ad ln cp f R B) (hb : Below w.heap.size w w') : OutS lo w' a n cap ad ln cp f R B :=
  ⟨h.rd.below hb, h.row, fun i hi => (h.wr i hi).below hb, h.el, h.ap⟩
theorem Out.far {lo : Nat} {w w' : World} {a : Option Addr} {c : Nat} {L : List T} (h : Out lo w a c L) {b : Nat} (hg : w.grownBy w' (some b)) (hb : b < lo) : Out lo w' a c L := by
  have hne : L.length = 0 ∨ ∀ b' off, a = some ⟨b', off, none⟩ → some b' ≠ some b := h.2.2.imp id (fun ⟨g, off, e, h1⟩ b' off' e' e2 => by
    rw [e] at e'; cases e'
    have : b' = b := by simpa using e2
    omega)
  exact ⟨h.1.grown hg hne, h.2.1.grown hg hne, h.2.2⟩
def tooB : Ending := .panicked [{ v := tooMuch, recovered := false }]
/-- what the closure leaves. -/
def AllPost (s0 : Nat) (W : World) (Bt Bl n : Nat) (R : Option Dv) (r : Ending) (w' : World) : Prop :=
  Below s0 W w' ∧ ((∃ S qa qc ad cp Rb B la lc mid, R = some S ∧ r = .returned (.tuple #[]) ∧ w'.cell? ⟨Bt, 0, none⟩ = some (.slice qa n qc) ∧ w'.cell? ⟨Bl, 0, none⟩ = some (.slice la S.r.length lc) ∧ OutS W.heap.size w' qa n qc ad (fun i => (S.q i).length) cp (fun i => lf (S.q i)) Rb B ∧ Out mid w' la lc S.r ∧ (n = 0 ∨ Rb < mid) ∧ (∀ i, i < n → (S.q i).length ≠ 0 → B i < mid) ∧ W.heap.size ≤ mid) ∨ (R = none ∧ r = .panicked [{ v := tooMuch, recovered := false }] ∧ w'.cell? ⟨Bt, 0, none⟩ = some (.slice none 0 0) ∧ w'.cell? ⟨Bl, 0, none⟩ = some (.slice none 0 0)))
set_option maxRecDepth 100000 in
set_option maxHeartbeats 8000000 in
theorem all1I (X : DvP) (W : World) (p : List T) (h : DvW X W 300 0 400 (dvOf p)) (hp : okL p = true) (hrk : X.rk = rkF X.o) (ho : 1 ≤ X.o ∧ X.o ≤ 3) (hl : lstOk X.n X.ln X.f = true) (Bv Bt Bl : Nat)
    (hv : W.cell? ⟨Bv, 0, none⟩ = some (.pointer (some ⟨X.Bd, 0, none⟩))) (ht : W.cell? ⟨Bt, 0, none⟩ = some (.slice none 0 0)) (hz : W.frozen? ⟨Bt, 0, none⟩ = false) (hc : W.cell? ⟨Bl, 0, none⟩ = some (.slice none 0 0)) (hy : W.frozen? ⟨Bl, 0, none⟩ = false)
    (n1 : Bv ≠ X.Bd) (n2 : Bt ≠ X.Bd) (n3 : Bl ≠ X.Bd) (n4 : Bt ≠ Bl) (l2 : X.s0 ≤ Bt) (l3 : X.s0 ≤ Bl) :
    Calls Tryz.prog 26 #[.pointer (some ⟨Bv, 0, none⟩), .pointer (some ⟨Bt, 0, none⟩), .pointer (some ⟨Bl, 0, none⟩)] W fun r w' => AllPost X.s0 W Bt Bl X.n (dvRun X.o X.n X.ln X.f 300 (dvOf p)) r w' := by
  have HH := Hid.mk' h
  have HV := Hid.mk' hv
  have HT := Hid.mk' (And.intro ht hz)
  have HC := Hid.mk' (And.intro hc hy)
  have n12 := (lstOk_all hl).1
  clear h hv ht hz hc hy
  go_enter Tryz.func26, Tryz.ntmps26
  go_wp2
  go_loopw [3] (fun _ wr => ∃ (fu u N : Nat) (S : Dv), fu + u = 300 ∧ N ≤ 400 + 400 * u ∧ DvOk u S ∧ DvW X wr fu u N S ∧ Turn X W wr ∧ dvRun X.o X.n X.ln X.f fu S = dvRun X.o X.n X.ln X.f 300 (dvOf p)) (fun _ wr => fuelOf X.Bd wr)
  case atStart => exact ⟨300, 0, 400, dvOf p, rfl, by omega, DvOk.start hp, HH.out, Turn.of (Below.refl _ _), rfl⟩
  case round =>
    obtain ⟨fu, u, N, S, hfu, hN, hok, hW, hT, hR⟩ := hrel
    have HOK := Hid.mk' hok
    have HW := Hid.mk' hW
    have HTR := Hid.mk' hT
    have HR := Hid.mk' hR
    have kv := hT.cell HH.out HV.out n1
    clear hok hW hT hR
    by_cases h0 : S.p.length = 0
    · have hb : ((S.p.length : Int) == 0) = true := by simpa using h0
      have HDN := Hid.mk' (doneI X wr fu u N S HW.out (okL_falls HOK.out.p).2 true hb)
      have HE := Hid.mk' (HR.out.symm.trans (dvRun_done h0))
      have HAN := Hid.mk' (answerI X wr fu u N S HW.out HOK.out (by omega) n12)
      obtain ⟨kt, kz⟩ := And.intro (HTR.out.cell HH.out HT.out.1 n2) (HTR.out.frozen HH.out HT.out.1 n2 HT.out.2)
      obtain ⟨kl, ky⟩ := And.intro (HTR.out.cell HH.out HC.out.1 n3) (HTR.out.frozen HH.out HC.out.1 n3 HC.out.2)
      have HK := Hid.mk' (And.intro (And.intro kt kz) (And.intro kl ky))
      clear kt kz kl ky hb
      go_wp2_with fail
      refine HDN.out.mono ?_
      rintro r w' ⟨rfl, hw'⟩
      obtain rfl := hw'.symm
      clear hw' HDN
      go_wp2_with fail
      refine HAN.out.mono ?_
      rintro r w1 ⟨qa, qc, ad, cp, Rb, B, la, lc, mid, rfl, hb1, hO, hL, hm1, hm2, hm3⟩
      have ltt : Bt < wr.heap.size := World.block_lt_of_cell? wr _ HK.out.1.1
      have ltl : Bl < wr.heap.size := World.block_lt_of_cell? wr _ HK.out.2.1
      have kt : w1.cell? ⟨Bt, 0, none⟩ = some (.slice none 0 0) := (hb1.cell (p := ⟨Bt, 0, none⟩) ltt).trans HK.out.1.1
      have kz : w1.frozen? ⟨Bt, 0, none⟩ = false := (hb1.frozen (p := ⟨Bt, 0, none⟩) ltt).trans HK.out.1.2
      have kl : w1.cell? ⟨Bl, 0, none⟩ = some (.slice none 0 0) := (hb1.cell (p := ⟨Bl, 0, none⟩) ltl).trans HK.out.2.1
      have ky : w1.frozen? ⟨Bl, 0, none⟩ = false := (hb1.frozen (p := ⟨Bl, 0, none⟩) ltl).trans HK.out.2.2
      have HFIN : Hid (AllPost X.s0 W Bt Bl X.n (some S) (.returned (.tuple #[])) ((w1.setCell ⟨Bt, 0, none⟩ (.slice qa X.n qc)).setCell ⟨Bl, 0, none⟩ (.slice la S.r.length lc))) := by
        have hs := HH.out.s0
        have hsw : W.heap.size ≤ wr.heap.size := HTR.out.size
        have g1 := grownSet w1 Bt 0 (.slice qa X.n qc)
        have g2 := grownSet (w1.setCell ⟨Bt, 0, none⟩ (.slice qa X.n qc)) Bl 0 (.slice la S.r.length lc)
        have hbw : Below X.s0 W w1 := (HTR.out.below HH.out).trans (hb1.mono HW.out.s0)
        refine ⟨(hbw.setCell (p := ⟨Bt, 0, none⟩) l2 _).setCell (p := ⟨Bl, 0, none⟩) l3 _, .inl ⟨S, qa, qc, ad, cp, Rb, B, la, lc, mid, rfl, rfl, ?_, ?_, ?_, ?_, hm1, hm2, by omega⟩⟩
        · simp [go_sem, kt, n4, n4.symm]
        · simp [go_sem, kl, n4, n4.symm]
        · exact ((hO.far g1 ltt).far g2 ltl).low hsw
        · exact (hL.far g1 (by omega)).far g2 (by omega)
      clear hb1 hO hL hm1 hm2 hm3 HAN
      have hnl : ¬ Bl = Bt := fun e => n4 e.symm
      go_wp2
      go_end0
      rw [HE.out]
      exact HFIN.out
    · have hb : ((S.p.length : Int) == 0) = false := by simpa using h0
      have HDN := Hid.mk' (doneI X wr fu u N S HW.out (okL_falls HOK.out.p).2 false hb)
      clear hb
      cases fu with
      | zero =>
        have HE := Hid.mk' (HR.out.symm.trans (dvRun_out h0))
        have HS := Hid.mk' (stepNo X wr u N S HW.out)
        go_wp2_with fail
        refine HDN.out.mono ?_
        rintro r w' ⟨rfl, hw'⟩
        obtain rfl := hw'.symm
        clear hw' HDN
        go_wp2_with fail
        refine HS.out.mono ?_
        rintro r w' ⟨rfl, hw'⟩
        obtain rfl := hw'.symm
        clear hw' HS
        go_wp2
        rw [HE.out]
        exact ⟨rfl, HTR.out.below HH.out, .inr ⟨rfl, rfl, HTR.out.cell HH.out HT.out.1 n2, HTR.out.cell HH.out HC.out.1 n3⟩⟩
      | succ fu =>
        have HS := Hid.mk' (stepI X wr fu u N hN S HW.out hrk ho HOK.out (by omega) hl h0 (by omega))
        go_wp2_with fail
        refine HDN.out.mono ?_
        rintro r w' ⟨rfl, hw'⟩
        obtain rfl := hw'.symm
        clear hw' HDN
        go_wp2_with fail
        refine HS.out.mono ?_
        rintro r w1 ⟨ht1, hh⟩
        rcases hh with ⟨S', e1, rfl, hW1⟩ | ⟨e1, rfl⟩
        · have HT1 := Hid.mk' (HTR.out.trans ht1)
          have HW1 := Hid.mk' hW1
          have HO1 := Hid.mk' (dvStep_ok hl HOK.out h0 e1)
          have HE1 := Hid.mk' ((dvRun_step h0 e1).symm.trans HR.out)
          have HF : Hid (fuelOf X.Bd w1 < fuelOf X.Bd wr) := by
            show fuelOf X.Bd w1 < fuelOf X.Bd wr
            rw [hW1.fuel, HW.out.fuel]
            omega
          clear ht1 hW1 e1 HS
          go_wp2
          go_roundw
          case rel => exact ⟨fu, u + 1, N + 400, S', by omega, by omega, HO1.out, HW1.out, HT1.out, HE1.out⟩
          case measure => exact HF.out
        · have HE := Hid.mk' (HR.out.symm.trans (dvRun_no h0 e1))
          have HT1 := Hid.mk' (HTR.out.trans ht1)
          clear ht1 e1 HS
          go_wp2
          rw [HE.out]
          exact ⟨rfl, HT1.out.below HH.out, .inr ⟨rfl, rfl, HT1.out.cell HH.out HT.out.1 n2, HT1.out.cell HH.out HC.out.1 n3⟩⟩
end Go.Proofs.YtkoaiogakkldgaaGreat
