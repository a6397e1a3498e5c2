/-
  FnExactDskRead: at every text the program reads the line that its model reads, and its answer owns its memory; the listed tables and errors of the library and the table of words are as the program lays them (the card ties them).
-/
import Derived.Test.YtkcmamepoplcdaaGreatDoorDrS
import Derived.Test.YtkcmamepoplcdaaGreatDoorDrI
import Derived.Test.YtkcmamepoplcdaaGreatDoorGam
import Derived.Test.YtkcmamepoplcdaaGreatDoorDrE
import Derived.Test.YtkcmamepoplcdaaGreatDoorGan
import Derived.Test.YtkcmamepoplcdaaGreatDoorRdE
import Derived.Test.YtkcmamepoplcdaaGreatDoorPxB
import Derived.Test.YtkcmamepoplcdaaGreatDoorGak
import Derived.Test.YtkcmamepoplcdaaGreatDoorGad
import Derived.Test.YtkcmamepoplcdaaGreatDoorTie
import Derived.Test.YtkcmamepoplcdaaGreatDoorCards
import Derived.ProofKit
import Derived.ShutString
import Derived.ChangeOld
import Derived.ChangeVars
import Derived.HandedShaped
import Derived.OpenShut
import Derived.LaidMore
import Derived.Lay
import Derived.SevenTiedAt
import Derived.Stop.Joined
namespace Go.Proofs.YtkcmamepoplcdaaGreatDoor.fnExactDskRead
open Go.ChangeMaps (open_string shut_string)
open Go.ChangeShapes Go.WideShapes Go.ChangeAt Go.RowKit Go.Deep Go.Joins
set_option linter.unusedVariables false

theorem markLineG (k to a b : Int) (pa : Option Addr) (n cap : Nat) (f : Nat → T) (K : Int) (w : World) (h : Wr w pa n f) (hn : n ≤ 1048576) (k0 : 0 ≤ K) (k1 : K ≤ 100000000000000) :
    Calls Tryz.prog 11 #[.agg #[.int .i64 k, .int .i64 to, .int .i64 a, .int .i64 b, .slice pa n cap], .int .i64 K] w fun r w' => r = .returned (.int .i64 (K + 5 * n)) ∧ ∃ w1, Below w.heap.size w w1 ∧ w1.grownBy w' (pa.map (·.block)) ∧ w'.heap.size = w1.heap.size ∧ Wr w' pa n (mk K) ∧ (n = 0 → w' = w1) := by
  have hb0 := bel_one w (.cells #[.int .i64 k, .int .i64 to, .int .i64 a, .int .i64 b, .slice pa n cap] 24)
  have HM := Hid.mk' (markTerms _ pa n cap f K (h.below hb0) (by omega) k0 (by omega))
  have HB0 := Hid.mk' hb0
  clear hb0 h
  go_enter Tryz.func11, Tryz.ntmps11
  go_wp2_with fail
  refine HM.out.mono ?_
  rintro r w1 ⟨rfl, hg, hz, hw, hs⟩
  have HP := Hid.mk' (And.intro hg (And.intro hz (And.intro hw hs)))
  clear hg hz hw hs HM
  go_wp2
  go_ret
  exact ⟨rfl, _, HB0.out, HP.out⟩
theorem heldLineG (k to a b : Int) (pa : Option Addr) (n cap : Nat) (K : Int) (w : World) (h : Rd w pa n cap (mk K)) (hn : n ≤ 1048576) (k0 : 0 ≤ K) (k1 : K ≤ 100000000000000) :
    Calls Tryz.prog 12 #[.agg #[.int .i64 k, .int .i64 to, .int .i64 a, .int .i64 b, .slice pa n cap], .int .i64 K] w fun r w' => r = .returned (.int .i64 (K + 5 * n)) ∧ Below w.heap.size w w' := by
  have hb0 := bel_one w (.cells #[.int .i64 k, .int .i64 to, .int .i64 a, .int .i64 b, .slice pa n cap] 24)
  have HM := Hid.mk' (heldTerms _ pa n cap K (h.below hb0) k0 (by omega))
  have HB0 := Hid.mk' hb0
  have kq : ¬ K + 5 * (n : Int) < 0 := by omega
  clear hb0 h
  go_enter Tryz.func12, Tryz.ntmps12
  go_wp2_with fail
  refine HM.out.mono ?_
  rintro r w' ⟨rfl, hw'⟩
  obtain rfl := hw'.symm
  clear hw' HM
  go_wp2
  go_ret
  exact ⟨rfl, HB0.out⟩
theorem v5_grown {w w' : World} {b : Nat} {x0 x1 x2 x3 x4 : Value} {row : Option Nat} (h : V5 w b x0 x1 x2 x3 x4) (hg : w.grownBy w' row) (hr : row ≠ some b) : V5 w' b x0 x1 x2 x3 x4 := by
  have e := hg.block b h.lt (fun q => hr q.symm)
  exact ⟨⟨(World.cell?_of_block (a := ⟨b, 0, none⟩) e).trans h.1.1, (World.cell?_of_block (a := ⟨b, 1, none⟩) e).trans h.1.2.1, (World.cell?_of_block (a := ⟨b, 2, none⟩) e).trans h.1.2.2.1, (World.cell?_of_block (a := ⟨b, 3, none⟩) e).trans h.1.2.2.2.1, (World.cell?_of_block (a := ⟨b, 4, none⟩) e).trans h.1.2.2.2.2⟩, fun j => (World.frozen?_of_block (a := ⟨b, j, none⟩) e).trans (h.2 j)⟩
theorem dskR_len (s : List UInt8) : (dskR s).1.P.length ≤ 400 := by
  cases h : (dskR s).2
  · by_cases q : ∃ l, IsLn l s
    · obtain ⟨l, hl⟩ := q
      rw [dskR_is hl] at h
      cases h
    · rw [dskR_no (fun l hl => q ⟨l, hl⟩)]
      exact Nat.zero_le _
  · exact (polOk_is (dskR_true h).ok.P).1
set_option maxRecDepth 100000 in
set_option maxHeartbeats 8000000 in
theorem walk (s : List UInt8) (w : World) (hM : Mxl w) (hE : Er w) (hT : Tb w) (hD : Dw w) : Calls Tryz.prog 3 #[.string ⟨s.toArray⟩] w fun e w' => e = .returned (.bool true) ∧ Below w.heap.size w w' := by
  by_cases hl : s.length ≤ 1048576
  · have hlI : ¬ (1048576 : Int) < (s.length : Int) := by omega
    have lenL := dskR_len s
    obtain ⟨R, hR⟩ : ∃ R, dskR s = R := ⟨_, rfl⟩
    obtain ⟨⟨k, to, a, b, L⟩, ok⟩ := R
    have HS : Hid (∀ u, Calls Tryz.prog 8 #[.string ⟨s.toArray⟩] u fun e w' => ∃ pa cap, e = .returned (.tuple #[.agg #[.int .i64 k, .int .i64 to, .int .i64 a, .int .i64 b, .slice pa L.length cap], .bool ok]) ∧ Below u.heap.size u w' ∧ Out u.heap.size w' pa cap L) := Hid.mk' (fun u => by
      have q := dskReadS s hl u
      unfold LnOut at q
      rw [hR] at q
      exact q)
    have HI : Hid (∀ u, Below w.heap.size w u → Calls Tryz.prog 9 #[.string ⟨s.toArray⟩] u fun e w' => ∃ pa cap, e = .returned (.tuple #[.agg #[.int .i64 k, .int .i64 to, .int .i64 a, .int .i64 b, .slice pa L.length cap], .bool ok]) ∧ Below u.heap.size u w' ∧ Out u.heap.size w' pa cap L) := Hid.mk' (fun u hb => by
      have q := dskReadI s hl u (hM.below hb) (hE.below hb) (hT.below hb) (hD.below hb)
      unfold LnOut at q
      rw [hR] at q
      exact q)
    rw [hR] at lenL
    simp only at lenL
    clear hR hM hE hT hD
    have hbb : (ok != ok) = false := by simp
    go_enter Tryz.func3, Tryz.ntmps3
    go_wp2_with fail
    refine (HS.out _).mono ?_
    rintro e wb ⟨asp, csp, rfl, hb, hout⟩
    have hbx := bel_one wb (.cells #[.int .i64 k, .int .i64 to, .int .i64 a, .int .i64 b, .slice asp L.length csp] 24)
    have Z1 := Hid.mk' (bel_next hb hbx)
    have A1 := Hid.mk' (V5.box wb 24 (.int .i64 k) (.int .i64 to) (.int .i64 a) (.int .i64 b) (.slice asp L.length csp))
    have S1 := Hid.mk' (hout.1.below hbx)
    have hE1 : wb.heap.size < (wb.alloc (.cells #[.int .i64 k, .int .i64 to, .int .i64 a, .int .i64 b, .slice asp L.length csp] 24)).heap.size := by simp
    have hwb : w.heap.size ≤ wb.heap.size := hb.size
    clear hb hout hbx HS
    go_wp2_with fail
    generalize (wb.alloc (.cells #[.int .i64 k, .int .i64 to, .int .i64 a, .int .i64 b, .slice asp L.length csp] 24)) = W1 at Z1 A1 S1 hE1 ⊢
    obtain ⟨E3, hE3⟩ : ∃ E, wb.heap.size = E := ⟨_, rfl⟩
    rw [hE3] at A1 hE1 hwb ⊢
    clear hE3
    have US := Hid.mk' S1.out.under
    refine (HI.out _ Z1.out).mono ?_
    rintro e wd ⟨ag, cg, rfl, hb, hout⟩
    have hbx := bel_one wd (.cells #[.int .i64 k, .int .i64 to, .int .i64 a, .int .i64 b, .slice ag L.length cg] 24)
    have hb2 := bel_next hb hbx
    have Z2 := Hid.mk' (bel_next Z1.out hb2)
    have A2 := Hid.mk' (A1.out.below hb2)
    have S2 := Hid.mk' (S1.out.below hb2)
    have G2 := Hid.mk' (And.intro (hout.1.below hbx) (hout.2.1.below hbx))
    have FG := Hid.mk' hout.from
    have UG := Hid.mk' hout.1.under
    have B2 := Hid.mk' (V5.box wd 24 (.int .i64 k) (.int .i64 to) (.int .i64 a) (.int .i64 b) (.slice ag L.length cg))
    have h1d : W1.heap.size ≤ wd.heap.size := hb.size
    have hE2 : wd.heap.size < (wd.alloc (.cells #[.int .i64 k, .int .i64 to, .int .i64 a, .int .i64 b, .slice ag L.length cg] 24)).heap.size := by simp
    clear hb hb2 hbx hout Z1 A1 S1
    obtain ⟨⟨x0, x1, x2, x3, x4⟩, xz⟩ := A2.out
    obtain ⟨⟨y0, y1, y2, y3, y4⟩, yz⟩ := B2.out
    go_wp2_with fail
    clear x0 x1 x2 x3 x4 xz y0 y1 y2 y3 y4 yz
    generalize (wd.alloc (.cells #[.int .i64 k, .int .i64 to, .int .i64 a, .int .i64 b, .slice ag L.length cg] 24)) = W2 at Z2 A2 S2 G2 B2 hE2 ⊢
    obtain ⟨E5, hE5⟩ : ∃ E, wd.heap.size = E := ⟨_, rfl⟩
    rw [hE5] at B2 hE2 h1d UG ⊢
    clear hE5
    refine (eqLine k to a b ag asp L.length cg csp (lf L) _ G2.out.1 S2.out).mono ?_
    rintro e w3 ⟨rfl, hb⟩
    have Z3 := Hid.mk' (bel_next Z2.out hb)
    have A3 := Hid.mk' (A2.out.below hb)
    have B3 := Hid.mk' (B2.out.below hb)
    have S3 := Hid.mk' (S2.out.below hb)
    have G3 := Hid.mk' (And.intro (G2.out.1.below hb) (G2.out.2.below hb))
    have h23 : W2.heap.size ≤ w3.heap.size := hb.size
    clear hb Z2 A2 B2 S2 G2
    obtain ⟨⟨y0, y1, y2, y3, y4⟩, yz⟩ := B3.out
    go_wp2_with fail
    clear y0 y1 y2 y3 y4 yz
    refine (markLineG k to a b ag L.length cg (lf L) 1 _ G3.out.2 (by omega) (by omega) (by omega)).mono ?_
    rintro e w4 ⟨rfl, w1, hb, hg, hz, hw, hsame⟩
    have hrow : L.length ≠ 0 → ∀ q, ag.map (·.block) = some q → W1.heap.size ≤ q ∧ q < E5 := fun hl q e => by
      rcases G3.out.2 with h' | ⟨g, off, _, _, rfl, _⟩
      · exact absurd h' hl
      · cases e
        exact ⟨(FG.out.resolve_left hl) g off rfl, (UG.out.resolve_left hl) g off rfl⟩
    have hb31 : w3.heap.size ≤ w1.heap.size := hb.size
    have Z4 : Hid (Below w.heap.size w w4) := by
      by_cases hl : L.length = 0
      · rw [hsame hl]; exact Hid.mk' (bel_next Z3.out hb)
      · exact Hid.mk' (bel_grown (bel_next Z3.out hb) hg (fun q e => by have := hrow hl q e; omega))
    have A4 : Hid (V5 w4 E3 (.int .i64 k) (.int .i64 to) (.int .i64 a) (.int .i64 b) (.slice asp L.length csp)) := by
      by_cases hl : L.length = 0
      · rw [hsame hl]; exact Hid.mk' (A3.out.below hb)
      · exact Hid.mk' (v5_grown (A3.out.below hb) hg (fun e => by have := hrow hl _ e; omega))
    have B4 : Hid (V5 w4 E5 (.int .i64 k) (.int .i64 to) (.int .i64 a) (.int .i64 b) (.slice ag L.length cg)) := by
      by_cases hl : L.length = 0
      · rw [hsame hl]; exact Hid.mk' (B3.out.below hb)
      · exact Hid.mk' (v5_grown (B3.out.below hb) hg (fun e => by have := hrow hl _ e; omega))
    have S4 : Hid (Rd w4 asp L.length csp (lf L)) := by
      by_cases hl : L.length = 0
      · rw [hsame hl]; exact Hid.mk' (S3.out.below hb)
      · exact Hid.mk' ((S3.out.below hb).grown hg (apart US.out FG.out hl G3.out.2))
    have G4 := Hid.mk' (hw.rd G3.out.1.1 (by omega))
    have kq : ¬ (1 : Int) + 5 * (L.length : Int) < 0 := by omega
    have h34 : w1.heap.size ≤ w4.heap.size := by omega
    clear hb hg hz hw hsame Z3 A3 B3 S3 G3 US FG UG hrow
    obtain ⟨⟨y0, y1, y2, y3, y4⟩, yz⟩ := B4.out
    go_wp2_with fail
    clear y0 y1 y2 y3 y4 yz
    refine (heldLineG k to a b ag L.length cg 1 _ G4.out (by omega) (by omega) (by omega)).mono ?_
    rintro e w5 ⟨rfl, hb⟩
    have Z5 := Hid.mk' (bel_next Z4.out hb)
    have A5 := Hid.mk' (A4.out.below hb)
    have B5 := Hid.mk' (B4.out.below hb)
    have S5 := Hid.mk' (S4.out.below hb)
    have G5 := Hid.mk' (G4.out.below hb)
    clear hb Z4 A4 B4 S4 G4
    go_wp2_with fail
    refine (HI.out _ Z5.out).mono ?_
    rintro e w6 ⟨ah, ch, rfl, hb, hout⟩
    have hbx := bel_one w6 (.cells #[.int .i64 k, .int .i64 to, .int .i64 a, .int .i64 b, .slice ah L.length ch] 24)
    have hb2 := bel_next hb hbx
    have Z6 := Hid.mk' (bel_next Z5.out hb2)
    have A6 := Hid.mk' (A5.out.below hb2)
    have B6 := Hid.mk' (B5.out.below hb2)
    have S6 := Hid.mk' (S5.out.below hb2)
    have G6 := Hid.mk' (G5.out.below hb2)
    have H6 := Hid.mk' (hout.1.below hbx)
    have C6 := Hid.mk' (V5.box w6 24 (.int .i64 k) (.int .i64 to) (.int .i64 a) (.int .i64 b) (.slice ah L.length ch))
    clear hb hb2 hbx hout Z5 A5 B5 S5 G5
    obtain ⟨⟨x0, x1, x2, x3, x4⟩, xz⟩ := A6.out
    obtain ⟨⟨y0, y1, y2, y3, y4⟩, yz⟩ := C6.out
    go_wp2_with fail
    clear x0 x1 x2 x3 x4 xz y0 y1 y2 y3 y4 yz
    generalize (w6.alloc (.cells #[.int .i64 k, .int .i64 to, .int .i64 a, .int .i64 b, .slice ah L.length ch] 24)) = W6 at Z6 A6 B6 S6 G6 H6 C6 ⊢
    refine (eqLine k to a b ah asp L.length ch csp (lf L) _ H6.out S6.out).mono ?_
    rintro e w7 ⟨rfl, hb⟩
    have Z7 := Hid.mk' (bel_next Z6.out hb)
    have B7 := Hid.mk' (B6.out.below hb)
    have G7 := Hid.mk' (G6.out.below hb)
    clear hb Z6 A6 B6 S6 G6 H6 C6
    obtain ⟨⟨y0, y1, y2, y3, y4⟩, yz⟩ := B7.out
    go_wp2_with fail
    clear y0 y1 y2 y3 y4 yz
    refine (heldLineG k to a b ag L.length cg 1 _ G7.out (by omega) (by omega) (by omega)).mono ?_
    rintro e w8 ⟨rfl, hb⟩
    have Z8 := Hid.mk' (bel_next Z7.out hb)
    clear hb Z7 B7 G7
    go_wp2
    go_ret
    exact ⟨rfl, Z8.out⟩
  · have hlI : (1048576 : Int) < (s.length : Int) := by omega
    go_enter Tryz.func3, Tryz.ntmps3
    go_wp2
    go_ret
    exact ⟨rfl, Below.refl _ _⟩
theorem own : ownKnob Tryz.prog.godebug = none := by kernel_rfl
theorem laidOut : laidOutB Tryz.prog = true := by kernel_rfl
set_option maxRecDepth 100000 in
theorem lifted (os : Os) (started : os.Started) (H : Type) (enc : TypeId × Value → H) :
    ReturnsInHanded {} Tryz.checked os 3 .any (fun w args => (Rows.fnExactDskReadSpec.pre enc Tryz.prog Tryz.f3 Rows.fnExactDskReadRow.domain false w args ∧ laidMetH Tryz.prog Rows.fnExactDskReadRow.laid w) ∧ sizedMet enc Tryz.prog Tryz.f3 (OpenSpec.ofChange Rows.fnExactDskReadSpec) false w args)
      (Rows.fnExactDskReadSpec.post enc Tryz.prog Tryz.f3 false true false false) := by
  refine returnsInHanded_of_calls own started (by kernel_rfl)
    (ChangeSpec.witness_shaped (enc := enc) (C := Tryz.checked) (os := os) (X := fun w _ => laidMetH Tryz.prog Rows.fnExactDskReadRow.laid w) false (World.laidAll Tryz.prog os Rows.fnExactDskReadRow.laid) #[.string ⟨#[]⟩] 8 (World.laidAll_os _ _ _)
      (World.shaped_of_ZipB (by kernel_rfl) (by kernel_rfl)) (by kernel_rfl) (by kernel_rfl) (by kernel_rfl)
      (by rw [MakeChecks.laidMetH_plain _ _ _ (by kernel_rfl)]; exact laidMet_laidAll _ (by kernel_rfl) (by kernel_rfl))) ?_
  intro w00 tape i _ hsh _ hok hpre _
  obtain ⟨_, _, _, fn', hfn', _, _, _, _, hval0⟩ := hok
  obtain rfl : fn' = Tryz.f3 := Option.some.inj (hfn'.symm.trans Tryz.func3)
  obtain ⟨⟨⟨ds, gs, before, hw00, _⟩, hx00⟩, _⟩ := hpre
  have hW := DataW.Whole.of_heap (w' := w00.forCall tape i) (by rfl) hw00
  have hL : laidMetH Tryz.prog Rows.fnExactDskReadRow.laid (w00.forCall tape i) := hx00.of_heap (by rfl)
  obtain ⟨base, hbase⟩ : ∃ n, w00.heap.size = n := ⟨_, rfl⟩
  rw [hbase] at hval0
  clear hw00 hx00
  generalize w00.forCall tape i = W at hsh hval0 hW hL ⊢
  generalize i.args = args at hval0 hW ⊢
  suffices hcall : Calls Tryz.prog 3 args W (fun e W' => ∃ v, e = .returned v ∧ Rows.fnExactDskReadSpec.post enc Tryz.prog Tryz.f3 false true false false W args v W') from hcall.mono (fun e W' ⟨v, he, hp⟩ => by subst he; exact ChangeSpec.post_blind hp)
  have hval : ∀ (j : Nat) t v, Tryz.f3.params[j]? = some t → args[j]? = some v → Value.okWide Tryz.prog W .any base t v := hval0
  have hW' := hW
  obtain ⟨p, q, hA0, hV, rfl, hfz, hnd⟩ := hW
  have hA : DataW.TrodAll enc Tryz.prog W 0 (fun _ => true) true Tryz.f3.params.toList args.toList ds p := hA0
  rw [Tryz.params3] at hA hval
  obtain ⟨v0, vs0, d0, ds0, p0, q0, hargs, rfl, rfl, h0, r0⟩ := trodAll_cons hA
  obtain ⟨rfl, rfl, rfl⟩ := trodAll_nil r0
  obtain rfl : args = #[v0] := by cases args; simp_all
  have hV' : DataW.TrodVars enc Tryz.prog W (fun _ => true) ["loop.example/selvedge/impl.dskWords"] gs q := hV
  obtain ⟨g, t, cs, fuel, d, p', rfl, hg, ht, hvar, hd, rfl⟩ := trodVars_one hV'
  obtain rfl := Option.some.inj (wordsNamed.symm.trans hg)
  obtain rfl := Option.some.inj (wordsType.symm.trans ht)
  have k0 := h0
  have lt0 : ∀ x ∈ p0, x.block < W.heap.size := by obtain ⟨m, hm⟩ := k0; exact DataW.trod_lt m _ _ _ hm
  obtain ⟨sb, rfl, hd0, hp0, hsz⟩ := open_string Tryz.underlying9 (hval 0 9 v0 rfl rfl) h0
  have hL2 := hL
  rw [MakeChecks.laidMetH_plain _ _ _ (by kernel_rfl)] at hL2
  have hTb : Tb W := tab_third hL2
  have hEr : Er W := er_of hL2.tail
  have hVW : W.var? Tryz.prog "loop.example/selvedge/impl.dskWords" = some wordsA := dw_list hL2.tail.tail.tail
  have hDw : Dw W := dw_of hVW
  have hMx : Mxl W := layM145.s1_3 W hsh
  obtain rfl := Option.some.inj (hvar.symm.trans hVW)
  have h0lt : 0 < W.heap.size := World.block_lt_of_cell? _ _ (hDw 1 (by omega) (by omega))
  have hltv : ∀ x ∈ p', x.block < W.heap.size := fun x hx => hW'.lt x (List.mem_append_right _ (List.mem_append_right _ hx))
  clear hA0 hval0
  refine ((walk sb.data.toList W hMx hEr hTb hDw)).mono fun e W' ⟨he, bel⟩ => ?_
  subst he
  obtain ⟨fuel', hd'⟩ := Below.trod laidOut (by kernel_rfl) (of_decide_eq_true (by kernel_rfl)) (v := .agg wordsA) (⟨fuel, hd⟩ : DataW.Trod enc Tryz.prog W 0 (fun _ => true) true 67 (.agg wordsA) d p') bel hltv
  have hv' := trodVars_mk1 (enc := enc) (spare := fun b => decide (b < W.heap.size)) hg ht (var?_below bel hg h0lt hvar) hd'
  exact ⟨_, rfl, _, _, _, [], _, _, hW', trodAll_mk1 (shut_bool Tryz.underlying4 _), (trodAll_cons_mk (Below.trod laidOut (by kernel_rfl) (of_decide_eq_true (by kernel_rfl)) k0 bel lt0) trodAll_mk0), hv', bel.frame _, fun h => by cases h⟩
theorem over : Rows.fnExactDskReadRow.holds Tryz.pinned (OpenSpec.ofChange Rows.fnExactDskReadSpec) :=
  OpenClaim.holds_of_wide 3 Tryz.f3 rfl rfl rfl rfl rfl rfl rfl ⟨rfl, rfl, rfl, rfl, rfl⟩ rfl rfl rfl rfl rfl (by kernel_rfl) Tryz.func3 (by kernel_rfl)
    (of_decide_eq_true (by kernel_rfl)) (by unfold Func.isWrapper; first | (rw [if_pos (by decide +kernel)]; kernel_rfl) | (rw [if_neg (by decide +kernel)]; exact ⟨rfl, rfl⟩))
    (fun os started H enc _ => lifted os started H enc)
theorem cardIs : Claim7.holds Tryz.pinned (.plain (OpenSpec.ofChange Rows.fnExactDskReadSpec)) Rows.fnExactDskReadCard :=
  Claim7.holds_tied_plain_at .later [] [.data, .data, .data, .data, .sentinel, .sentinel, .data, .pinned] true _ true
    over (fun _ h => by cases h) (by kernel_rfl) (fun _ h => by cases h) fnExactDskRead_row_tie rfl ⟨rfl, rfl⟩ (by kernel_rfl) rfl
    (fun f fn hf hfn => by
      obtain rfl : f = 3 := Option.some.inj ((show Tryz.prog.funcNamed Rows.fnExactDskReadRow.func = some 3 by kernel_rfl).symm.trans hf) |>.symm
      obtain rfl : fn = Tryz.f3 := (Option.some.inj (Tryz.func3.symm.trans hfn)).symm
      exact ⟨by kernel_rfl, fun j t ht => by
        rw [Tryz.params3] at ht
        have hall : (Tryz.f3.params.toList.all fun u => !Tryz.prog.wantsStandIn u) = true := by kernel_rfl
        have hm : t ∈ Tryz.f3.params.toList := by rw [Tryz.params3]; simpa using Array.mem_of_getElem? ht
        exact (show Tryz.prog.wantsStandIn t = false by simpa using List.all_eq_true.1 hall t hm)⟩)
    (by kernel_rfl)
end Go.Proofs.YtkcmamepoplcdaaGreatDoor.fnExactDskRead
namespace Go.Proofs.YtkcmamepoplcdaaGreatDoor
theorem fnExactDskRead_holds : Rows.FnExactDskReadCardSaid := fnExactDskRead.cardIs
#print axioms fnExactDskRead_holds
end Go.Proofs.YtkcmamepoplcdaaGreatDoor
