/-
  FnExactDskRun: at every row of lines the program tells what its model tells, and its answer owns its memory; the listed tables and errors of the library and the table of words are as the program lays them (the card ties them).
-/
import Derived.Test.YtkcmamepoplcdaaGreatDoorTie
import Derived.Test.YtkcmamepoplcdaaGreatDoorCards
import Derived.ShutString
import Derived.ChangeOld
import Derived.ChangeVars
import Derived.HandedShaped
import Derived.Deep.Strs
import Derived.Lay
import Derived.SevenTiedAt
import Derived.Stop.Joined
import Derived.Test.YtkcmamepoplcdaaGreatDoorXbr
namespace Go.Proofs.YtkcmamepoplcdaaGreatDoor.fnExactDskRun
open Go.ChangeShapes Go.WideShapes Go.ChangeAt Go.RowKit Go.Deep Go.Joins
set_option linter.unusedVariables false
theorem texts_open {H : Type} {enc : TypeId × Value → H} {w : World} {base : Nat} {spare : Nat → Bool} {held : Bool} {fuel : Nat} {a : Option Addr} {n cap : Nat} {x : DataW H × List MemPlace}
    (h : DataW.trod enc Tryz.prog w base spare held fuel 30 [.slice a n cap] = some x) : ∃ L : List (List UInt8), n = L.length ∧ L.length ≤ cap ∧ (L.length : Int) ≤ 9223372036854775807 ∧ (L.length = 0 ∨ ∃ b off, a = some ⟨b, off, none⟩ ∧ b < w.heap.size ∧ ∀ (i : Nat) (l : List UInt8), L[i]? = some l → w.cell? ⟨b, off + i, none⟩ = some (.string ⟨l.toArray⟩)) ∧ ∀ l ∈ L, (l.length : Int) ≤ 9223372036854775807 := by
  rcases open_strs Tryz.underlying30 Tryz.underlying9 (by kernel_rfl) h with ⟨hc, _⟩ | ⟨ad, len, cp, m, Sx, hc, _, hl, hm, hmm, _, hx⟩
  · simp at hc
    obtain ⟨rfl, rfl, rfl⟩ := hc
    exact ⟨[], rfl, Nat.le_refl _, by simp, .inl rfl, fun l hl => by cases hl⟩
  · simp at hc
    obtain ⟨rfl, rfl, rfl⟩ := hc
    have hnm : n ≤ m := by rw [hmm]; split <;> omega
    have hb : cap ≤ 9223372036854775807 := by unfold maxLen at hm; omega
    refine ⟨(List.range n).map (fun i => (Sx i).data.toList), by simp, by simpa using hl, by simp; omega, ?_, fun l hl' => ?_⟩
    · by_cases h0 : n = 0
      · exact .inl (by simp [h0])
      · obtain ⟨bb, off, spot⟩ := ad
        have hc := (hx 0 (by omega)).1
        have hspot : spot = none := by simpa [Addr.add] using World.cell?_spot hc
        subst hspot
        refine .inr ⟨bb, off, rfl, World.block_lt_of_cell? w _ hc, fun i l hi => ?_⟩
        have hlt : i < n := by simpa using (List.getElem?_eq_some_iff.1 hi).1
        rw [List.getElem?_map, List.getElem?_range hlt] at hi
        obtain rfl := Option.some.inj hi
        have := (hx i (by omega)).1
        rw [show (⟨(Sx i).data.toList.toArray⟩ : ByteArray) = Sx i by simp]
        by_cases hi0 : i = 0
        · subst hi0; simpa [Addr.add] using this
        · simpa [Addr.add, hi0] using this
    · simp only [List.mem_map, List.mem_range] at hl'
      obtain ⟨i, hi, rfl⟩ := hl'
      have := (hx i (by omega)).2
      rw [Array.length_toList]
      have e : (Sx i).data.size = (Sx i).size := rfl
      unfold maxLen at this
      omega
theorem own : ownKnob Tryz.prog.godebug = none := by kernel_rfl
theorem laidOut : laidOutB Tryz.prog = true := by kernel_rfl
set_option maxRecDepth 100000 in
theorem lifted (os : Os) (started : os.Started) (H : Type) (enc : TypeId × Value → H) :
    ReturnsInHanded {} Tryz.checked os 4 .any (fun w args => (Rows.fnExactDskRunSpec.pre enc Tryz.prog Tryz.f4 Rows.fnExactDskRunRow.domain false w args ∧ laidMetH Tryz.prog Rows.fnExactDskRunRow.laid w) ∧ sizedMet enc Tryz.prog Tryz.f4 (OpenSpec.ofChange Rows.fnExactDskRunSpec) false w args)
      (Rows.fnExactDskRunSpec.post enc Tryz.prog Tryz.f4 false true false false) := by
  refine returnsInHanded_of_calls own started (by kernel_rfl)
    (ChangeSpec.witness_shaped (enc := enc) (C := Tryz.checked) (os := os) (X := fun w _ => laidMetH Tryz.prog Rows.fnExactDskRunRow.laid w) false (World.laidAll Tryz.prog os Rows.fnExactDskRunRow.laid) #[.slice none 0 0] 8 (World.laidAll_os _ _ _)
      (World.shaped_of_ZipB (by kernel_rfl) (by kernel_rfl)) (by kernel_rfl) (by kernel_rfl) (by kernel_rfl)
      (by rw [MakeChecks.laidMetH_plain _ _ _ (by kernel_rfl)]; exact laidMet_laidAll _ (by kernel_rfl) (by kernel_rfl))) ?_
  intro w00 tape i _ hsh _ hok hpre _
  obtain ⟨_, _, _, fn', hfn', _, _, _, _, hval0⟩ := hok
  obtain rfl : fn' = Tryz.f4 := Option.some.inj (hfn'.symm.trans Tryz.func4)
  obtain ⟨⟨⟨ds, gs, before, hw00, _⟩, hx00⟩, _⟩ := hpre
  have hW := DataW.Whole.of_heap (w' := w00.forCall tape i) (by rfl) hw00
  have hL : laidMetH Tryz.prog Rows.fnExactDskRunRow.laid (w00.forCall tape i) := hx00.of_heap (by rfl)
  obtain ⟨base, hbase⟩ : ∃ n, w00.heap.size = n := ⟨_, rfl⟩
  rw [hbase] at hval0
  clear hw00 hx00
  generalize w00.forCall tape i = W at hsh hval0 hW hL ⊢
  generalize i.args = args at hval0 hW ⊢
  suffices hcall : Calls Tryz.prog 4 args W (fun e W' => ∃ v, e = .returned v ∧ Rows.fnExactDskRunSpec.post enc Tryz.prog Tryz.f4 false true false false W args v W') from hcall.mono (fun e W' ⟨v, he, hp⟩ => by subst he; exact ChangeSpec.post_blind hp)
  have hval : ∀ (j : Nat) t v, Tryz.f4.params[j]? = some t → args[j]? = some v → Value.okWide Tryz.prog W .any base t v := hval0
  have hW' := hW
  obtain ⟨p, q, hA0, hV, rfl, hfz, hnd⟩ := hW
  have hA : DataW.TrodAll enc Tryz.prog W 0 (fun _ => true) true Tryz.f4.params.toList args.toList ds p := hA0
  rw [Tryz.params4] at hA hval
  obtain ⟨v0, vs0, d0, ds0, p0, q0, hargs, rfl, rfl, h0, r0⟩ := trodAll_cons hA
  obtain ⟨rfl, rfl, rfl⟩ := trodAll_nil r0
  obtain rfl : args = #[v0] := by cases args; simp_all
  have hV' : DataW.TrodVars enc Tryz.prog W (fun _ => true) ["loop.example/selvedge/impl.dskWords"] gs q := hV
  obtain ⟨g, t, cs, fuel, d, p', rfl, hg, ht, hvar, hd, rfl⟩ := trodVars_one hV'
  obtain rfl := Option.some.inj (mY.symm.trans hg)
  obtain rfl := Option.some.inj (uS.symm.trans ht)
  have k0 := h0
  have lt0 : ∀ x ∈ p0, x.block < W.heap.size := by obtain ⟨m, hm⟩ := k0; exact DataW.trod_lt m _ _ _ hm
  obtain ⟨a0, len0, cap0, rfl⟩ := okWide_slice Tryz.underlying30 (hval 0 30 v0 rfl rfl)
  obtain ⟨L0, rfl, hc0, hn0, hin0, hl0⟩ : ∃ L : List (List UInt8), len0 = L.length ∧ L.length ≤ cap0 ∧ (L.length : Int) ≤ 9223372036854775807 ∧ (L.length = 0 ∨ ∃ b off, a0 = some ⟨b, off, none⟩ ∧ b < W.heap.size ∧ ∀ (i : Nat) (l : List UInt8), L[i]? = some l → W.cell? ⟨b, off + i, none⟩ = some (.string ⟨l.toArray⟩)) ∧ ∀ l ∈ L, (l.length : Int) ≤ 9223372036854775807 := by
    obtain ⟨fuel, hf⟩ := h0
    exact texts_open hf
  have hL2 := hL
  rw [MakeChecks.laidMetH_plain _ _ _ (by kernel_rfl)] at hL2
  have hTb : Tb W := EH hL2
  have hEr : Er W := RB hL2.tail
  have hVW : W.var? Tryz.prog "loop.example/selvedge/impl.dskWords" = some wordsA := LJ hL2.tail.tail.tail
  have hDw : Dw W := RA hVW
  have hMx : EP W := layM145.s1_3 W hsh
  obtain rfl := Option.some.inj (hvar.symm.trans hVW)
  have h0lt : 0 < W.heap.size := World.block_lt_of_cell? _ _ (hDw 1 (by omega) (by omega))
  have hltv : ∀ x ∈ p', x.block < W.heap.size := fun x hx => hW'.lt x (List.mem_append_right _ (List.mem_append_right _ hx))
  clear hA0 hval0
  refine (mX L0 a0 cap0 W hc0 hn0 hin0 hl0 hMx hEr hTb hDw).mono fun e W' ⟨he, bel⟩ => ?_
  subst he
  obtain ⟨fuel', hd'⟩ := Below.trod laidOut (by kernel_rfl) (of_decide_eq_true (by kernel_rfl)) (v := .agg wordsA) (⟨fuel, hd⟩ : DataW.Trod enc Tryz.prog W 0 (fun _ => true) true 67 (.agg wordsA) d p') bel hltv
  have hv' := trodVars_mk1 (enc := enc) (spare := fun b => decide (b < W.heap.size)) hg ht (var?_below bel hg h0lt hvar) hd'
  exact ⟨_, rfl, _, _, _, [], _, _, hW', trodAll_mk1 (shut_bool Tryz.underlying4 _), (trodAll_cons_mk (Below.trod laidOut (by kernel_rfl) (of_decide_eq_true (by kernel_rfl)) k0 bel lt0) trodAll_mk0), hv', bel.frame _, fun h => by cases h⟩
theorem over : Rows.fnExactDskRunRow.holds Tryz.pinned (OpenSpec.ofChange Rows.fnExactDskRunSpec) :=
  OpenClaim.holds_of_wide 4 Tryz.f4 rfl rfl rfl rfl rfl rfl rfl ⟨rfl, rfl, rfl, rfl, rfl⟩ rfl rfl rfl rfl rfl (by kernel_rfl) Tryz.func4 (by kernel_rfl)
    (of_decide_eq_true (by kernel_rfl)) (by unfold Func.isWrapper; first | (rw [if_pos (by decide +kernel)]; kernel_rfl) | (rw [if_neg (by decide +kernel)]; exact ⟨rfl, rfl⟩))
    (fun os started H enc _ => lifted os started H enc)
theorem cardIs : Claim7.holds Tryz.pinned (.plain (OpenSpec.ofChange Rows.fnExactDskRunSpec)) Rows.fnExactDskRunCard :=
  Claim7.holds_tied_plain_at .later [] [.data, .data, .data, .data, .sentinel, .sentinel, .data, .pinned] true _ true
    over (fun _ h => by cases h) (by kernel_rfl) (fun _ h => by cases h) fnExactDskRun_row_tie rfl ⟨rfl, rfl⟩ (by kernel_rfl) rfl
    (fun f fn hf hfn => by
      obtain rfl : f = 4 := Option.some.inj ((show Tryz.prog.funcNamed Rows.fnExactDskRunRow.func = some 4 by kernel_rfl).symm.trans hf) |>.symm
      obtain rfl : fn = Tryz.f4 := (Option.some.inj (Tryz.func4.symm.trans hfn)).symm
      exact ⟨by kernel_rfl, fun j t ht => by
        rw [Tryz.params4] at ht
        have hall : (Tryz.f4.params.toList.all fun u => !Tryz.prog.wantsStandIn u) = true := by kernel_rfl
        have hm : t ∈ Tryz.f4.params.toList := by rw [Tryz.params4]; simpa using Array.mem_of_getElem? ht
        exact (show Tryz.prog.wantsStandIn t = false by simpa using List.all_eq_true.1 hall t hm)⟩)
    (by kernel_rfl)
end Go.Proofs.YtkcmamepoplcdaaGreatDoor.fnExactDskRun
namespace Go.Proofs.YtkcmamepoplcdaaGreatDoor
theorem fnExactDskRun_holds : Rows.FnExactDskRunCardSaid := fnExactDskRun.cardIs
#print axioms fnExactDskRun_holds
end Go.Proofs.YtkcmamepoplcdaaGreatDoor
