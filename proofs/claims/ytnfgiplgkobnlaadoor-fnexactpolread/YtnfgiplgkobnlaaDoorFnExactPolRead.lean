/-
  FnExactPolRead: at every text the program reads the operator that its model reads, and its answer owns its memory; the listed tables and errors of the library are as the program lays them (the card ties them).
-/
import Derived.Test.YtnfgiplgkobnlaaDoorCtF
import Derived.Test.YtnfgiplgkobnlaaDoorPrJ
import Derived.Test.YtnfgiplgkobnlaaDoorRdE
import Derived.Test.YtnfgiplgkobnlaaDoorPxB
import Derived.Test.YtnfgiplgkobnlaaDoorExact
import Derived.Test.YtnfgiplgkobnlaaDoorOpenM
import Derived.Test.YtnfgiplgkobnlaaDoorTie
import Derived.Test.YtnfgiplgkobnlaaDoorCards
import Derived.ProofKit
import Derived.ShutString
import Derived.ChangeOld
import Derived.OpenShut
import Derived.LaidMore
import Derived.Lay
import Derived.SevenTiedAt
import Derived.Stop.Joined
namespace Go.Proofs.YtnfgiplgkobnlaaDoor.fnExactPolRead
open Go.ChangeMaps (open_string shut_string)
open Go.ChangeShapes Go.WideShapes Go.ChangeAt Go.RowKit Go.Deep Go.Joins
set_option linter.unusedVariables false

theorem polR_len (s : List UInt8) : (polR s).1.length ≤ 401 := by
  unfold polR
  split
  · simp
  · split
    · rename_i h
      have := cut_len s
      show (wT s).length ≤ 401
      rw [wT_len]
      omega
    · simp
set_option maxRecDepth 100000 in
set_option maxHeartbeats 8000000 in
theorem walk (s : List UInt8) (w : World) (hE : Er w) (hT : Tb w) : Calls Tryd.prog 6 #[.string ⟨s.toArray⟩] w fun e w' => e = .returned (.bool true) ∧ Below w.heap.size w w' := by
  by_cases hl : s.length ≤ 1048576
  · have hlI : ¬ (1048576 : Int) < (s.length : Int) := by omega
    have lenL := polR_len s
    have HE := Hid.mk' hE
    have HT := Hid.mk' hT
    have HS := Hid.mk' (fun u => polReadS s hl u)
    have HI := Hid.mk' (fun u h k => polReadI s hl u h k)
    obtain ⟨R, hR⟩ : ∃ R, polR s = R := ⟨_, rfl⟩
    rw [hR] at HS HI lenL
    clear hR hE hT
    obtain ⟨L, b⟩ := R
    dsimp only at HS HI lenL
    have hbb : (b != b) = false := by simp
    go_enter Tryd.func6, Tryd.ntmps6
    go_wp2_with fail
    refine (HS.out _).mono ?_
    rintro e wb ⟨asp, csp, rfl, hb, hout⟩
    have Bb := Hid.mk' hb
    have Sb := Hid.mk' hout.1
    have US := Hid.mk' hout.1.under
    clear hb hout HS
    go_wp2_with fail
    refine (HI.out _ (HE.out.below Bb.out) (HT.out.below Bb.out)).mono ?_
    rintro e wd ⟨ag, cg, rfl, hb, hout⟩
    have Bd := Hid.mk' (bel_next Bb.out hb)
    have Sd := Hid.mk' (Sb.out.below hb)
    have Gd := Hid.mk' hout
    have FG := Hid.mk' hout.from
    clear hb hout Sb
    go_wp2_with fail
    refine (eqTerms _ _ _ _ _ _ _ _ _ Gd.out.1 Sd.out).mono ?_
    rw [termsEq_same]
    rintro e wi ⟨rfl, hb⟩
    have Bi := Hid.mk' (bel_next Bd.out hb)
    have Si := Hid.mk' (Sd.out.below hb)
    have Gi := Hid.mk' (And.intro (Gd.out.1.below hb) (Gd.out.2.1.below hb))
    clear hb Sd Gd
    go_wp2_with fail
    refine (markTerms _ _ _ _ _ 1 Gi.out.2 (by omega) (by omega) (by omega)).mono ?_
    rintro e wj ⟨rfl, hg, hz, hw, hsame⟩
    have Bj : Hid (Below w.heap.size w wj) := by
      by_cases hl : L.length = 0
      · rw [hsame hl]; exact Bi.out
      · refine bel_grown Bi.out hg (fun k e => ?_)
        rcases FG.out with h | h
        · exact absurd h hl
        · rcases Gi.out.2 with h' | ⟨g, off, _, _, rfl, _⟩
          · exact absurd h' hl
          · cases e
            exact Nat.le_trans Bb.out.size (h g off rfl)
    have Sj : Hid (Rd wj asp L.length csp (lf L)) := by
      by_cases hl : L.length = 0
      · rw [hsame hl]; exact Si.out
      · exact Si.out.grown hg (apart US.out FG.out hl Gi.out.2)
    have Gj := Hid.mk' (hw.rd Gi.out.1.1 (by omega))
    have kq : decide ((1 : Int) + 5 * (L.length : Int) < 0) = false := decide_eq_false (by omega)
    clear hg hz hw hsame Si Gi
    go_wp2_with fail
    refine (heldTerms _ _ _ _ 1 Gj.out (by omega) (by omega)).mono ?_
    rintro e w' ⟨rfl, hw'⟩
    obtain rfl := hw'.symm
    clear hw'
    go_wp2_with fail
    refine (HI.out _ (HE.out.below Bj.out) (HT.out.below Bj.out)).mono ?_
    rintro e wl ⟨ah, ch, rfl, hb, hout⟩
    have Bl := Hid.mk' (bel_next Bj.out hb)
    have Sl := Hid.mk' (Sj.out.below hb)
    have Gl := Hid.mk' (Gj.out.below hb)
    have Hl := Hid.mk' hout.1
    clear hb hout Sj Gj
    go_wp2_with fail
    refine (eqTerms _ _ _ _ _ _ _ _ _ Hl.out Sl.out).mono ?_
    rw [termsEq_same]
    rintro e wm ⟨rfl, hb⟩
    have Bm := Hid.mk' (bel_next Bl.out hb)
    have Gm := Hid.mk' (Gl.out.below hb)
    clear hb Sl Gl Hl
    go_wp2_with fail
    refine (heldTerms _ _ _ _ 1 Gm.out (by omega) (by omega)).mono ?_
    rintro e w' ⟨rfl, hw'⟩
    obtain rfl := hw'.symm
    clear hw'
    go_wp2
    go_ret
    exact ⟨rfl, Bm.out⟩
  · have hlI : (1048576 : Int) < (s.length : Int) := by omega
    go_enter Tryd.func6, Tryd.ntmps6
    go_wp2
    go_ret
    exact ⟨rfl, Below.refl _ _⟩
theorem own : ownKnob Tryd.prog.godebug = none := by kernel_rfl
theorem laidOut : laidOutB Tryd.prog = true := by kernel_rfl
set_option maxRecDepth 100000 in
theorem lifted (os : Os) (started : os.Started) (H : Type) (enc : TypeId × Value → H) :
    ReturnsInHanded {} Tryd.checked os 6 .any (fun w args => (Rows.fnExactPolReadSpec.pre enc Tryd.prog Tryd.f6 Rows.fnExactPolReadRow.domain false w args ∧ laidMetH Tryd.prog Rows.fnExactPolReadRow.laid w) ∧ sizedMet enc Tryd.prog Tryd.f6 (OpenSpec.ofChange Rows.fnExactPolReadSpec) false w args)
      (Rows.fnExactPolReadSpec.post enc Tryd.prog Tryd.f6 false true false false) := by
  refine returnsInHanded_of_change_and (C := Tryd.checked) (X := fun w _ => laidMetH Tryd.prog Rows.fnExactPolReadRow.laid w) (fun _ _ _ hh h => h.of_heap hh) own started (by kernel_rfl) Tryd.func6
    (ChangeSpec.witness_shaped (enc := enc) (C := Tryd.checked) (os := os) (X := fun w _ => laidMetH Tryd.prog Rows.fnExactPolReadRow.laid w) false (World.laidAll Tryd.prog os Rows.fnExactPolReadRow.laid) #[.string ⟨#[]⟩] 8 (World.laidAll_os _ _ _)
      (World.shaped_of_ZipB (by kernel_rfl) (by kernel_rfl)) (by kernel_rfl) (by kernel_rfl) (by kernel_rfl)
      (by rw [MakeChecks.laidMetH_plain _ _ _ (by kernel_rfl)]; exact laidMet_laidAll _ (by kernel_rfl) (by kernel_rfl))) ?_
  intro W base args ds gs before hval0 hW hcnd _ hL _
  have hval : ∀ (j : Nat) t v, Tryd.f6.params[j]? = some t → args[j]? = some v → Value.okWide Tryd.prog W .any base t v := hval0
  have hW' := hW
  obtain ⟨p, q, hA0, hV, rfl, hfz, hnd⟩ := hW
  have hA : DataW.TrodAll enc Tryd.prog W 0 (fun _ => true) true Tryd.f6.params.toList args.toList ds p := hA0
  rw [Tryd.params6] at hA hval
  obtain ⟨v0, vs0, d0, ds0, p0, q0, hargs, rfl, rfl, h0, r0⟩ := trodAll_cons hA
  obtain ⟨rfl, rfl, rfl⟩ := trodAll_nil r0
  obtain rfl : args = #[v0] := by cases args; simp_all
  obtain ⟨rfl, rfl⟩ := trodVars_none hV
  have k0 := h0
  have lt0 : ∀ x ∈ p0, x.block < W.heap.size := by obtain ⟨m, hm⟩ := k0; exact DataW.trod_lt m _ _ _ hm
  obtain ⟨sb, rfl, hd0, hp0, hsz⟩ := open_string Tryd.underlying9 (hval 0 9 v0 rfl rfl) h0
  have hL2 := hL
  rw [MakeChecks.laidMetH_plain _ _ _ (by kernel_rfl)] at hL2
  have hEr : Er W := er_of hL2.tail
  have hTb : Tb W := tab_third hL2
  clear hA0 hval0
  refine ((walk sb.data.toList W hEr hTb)).mono fun e W' ⟨he, bel⟩ => ?_
  subst he
  exact ⟨_, rfl, _, _, _, [], _, [], hW', trodAll_mk1 (shut_bool Tryd.underlying4 _), (trodAll_cons_mk (Below.trod laidOut (by kernel_rfl) (of_decide_eq_true (by kernel_rfl)) k0 bel lt0) trodAll_mk0), rfl, bel.frame _, fun h => by cases h⟩
theorem over : Rows.fnExactPolReadRow.holds Tryd.pinned (OpenSpec.ofChange Rows.fnExactPolReadSpec) :=
  OpenClaim.holds_of_wide 6 Tryd.f6 rfl rfl rfl rfl rfl rfl rfl ⟨rfl, rfl, rfl, rfl, rfl⟩ rfl rfl rfl rfl rfl (by kernel_rfl) Tryd.func6 (by kernel_rfl)
    (of_decide_eq_true (by kernel_rfl)) (by unfold Func.isWrapper; first | (rw [if_pos (by decide +kernel)]; kernel_rfl) | (rw [if_neg (by decide +kernel)]; exact ⟨rfl, rfl⟩))
    (fun os started H enc _ => lifted os started H enc)
theorem cardIs : Claim7.holds Tryd.pinned (.plain (OpenSpec.ofChange Rows.fnExactPolReadSpec)) Rows.fnExactPolReadCard :=
  Claim7.holds_tied_plain_at .later [] [.data, .data, .data, .data, .sentinel, .sentinel, .pinned] true _ true
    over (fun _ h => by cases h) (by kernel_rfl) (fun _ h => by cases h) fnExactPolRead_row_tie rfl ⟨rfl, rfl⟩ (by kernel_rfl) rfl
    (fun f fn hf hfn => by
      obtain rfl : f = 6 := Option.some.inj ((show Tryd.prog.funcNamed Rows.fnExactPolReadRow.func = some 6 by kernel_rfl).symm.trans hf) |>.symm
      obtain rfl : fn = Tryd.f6 := (Option.some.inj (Tryd.func6.symm.trans hfn)).symm
      exact ⟨by kernel_rfl, fun j t ht => by
        rw [Tryd.params6] at ht
        have hall : (Tryd.f6.params.toList.all fun u => !Tryd.prog.wantsStandIn u) = true := by kernel_rfl
        have hm : t ∈ Tryd.f6.params.toList := by rw [Tryd.params6]; simpa using Array.mem_of_getElem? ht
        exact (show Tryd.prog.wantsStandIn t = false by simpa using List.all_eq_true.1 hall t hm)⟩)
    (by kernel_rfl)
end Go.Proofs.YtnfgiplgkobnlaaDoor.fnExactPolRead
namespace Go.Proofs.YtnfgiplgkobnlaaDoor
theorem fnExactPolRead_holds : Rows.FnExactPolReadCardSaid := fnExactPolRead.cardIs
#print axioms fnExactPolRead_holds
end Go.Proofs.YtnfgiplgkobnlaaDoor
