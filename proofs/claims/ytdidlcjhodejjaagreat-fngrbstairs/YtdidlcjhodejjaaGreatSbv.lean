/-
  What is true of a list of whose pairs nothing is left: what is made of it, what is left by it.
  The draw of an operator, one in so many with something wrong, also where much has been drawn before.
  An order and a basis, or but some operators, are drawn (spec.l20Base); what is drawn lies apart from the reader.
-/
import Derived.Test.YtdidlcjhodejjaaGreatSbt
import Derived.Test.YtdidlcjhodejjaaGreatSbp
import Derived.Test.YtdidlcjhodejjaaGreatSbm
import Derived.Test.YtdidlcjhodejjaaGreatSax
import Derived.Test.YtdidlcjhodejjaaGreatSbu
namespace Go.Proofs.YtdidlcjhodejjaaGreat
open Go.RowKit Go.Deep Go.Joins
set_option linter.unusedVariables false

end Go.Proofs.YtdidlcjhodejjaaGreat
namespace Go.Proofs.YtdidlcjhodejjaaGreat
open Go.RowKit
set_option linter.unusedVariables false
end Go.Proofs.YtdidlcjhodejjaaGreat
namespace Go.Proofs.YtdidlcjhodejjaaGreat
open Go.RowKit Go.Deep Go.Joins
set_option linter.unusedVariables false

theorem fr_beside {B : Nat} {w w' : World} (h : Beside B w w') : Fr (fun k => k = B) w w' := ⟨h.os, h.tape, h.output, h.size, fun k hk hn => h.block k hk hn⟩
theorem RSo.beside {B : Nat} {w w' : World} {a : Option Addr} {g c : Nat} {ad : Nat → Option Addr} {cp : Nat → Nat} {Q : Nat → List T} (h : RSo (fun b => b ≠ B) w a g c ad cp Q) (hb : Beside B w w') : RSo (fun b => b ≠ B) w' a g c ad cp Q := h.fr (fr_beside hb) (fun b hn e => hn e)
theorem RSo.below {N : Nat → Prop} {w w' : World} {a : Option Addr} {g c : Nat} {ad : Nat → Option Addr} {cp : Nat → Nat} {Q : Nat → List T} (h : RSo N w a g c ad cp Q) (hb : Below w.heap.size w w') : RSo N w' a g c ad cp Q := h.fr (P := fun _ => False) (Fr.of_below hb) (fun _ _ q => q)
/-- a drawn list lies apart from the reader. -/
theorem rso_list {w : World} {B lo lo' : Nat} {g' : Option Nat} {v : Value} {LS : List Value} (h : w.ownsRow lo 45 1 v LS.length LS) (hE : ∀ e ∈ LS, El w lo' g' e) (hl : LS.length ≤ 100) (h1 : B < lo) (h2 : B < lo') : ∃ a c ad cp L, v = .slice a LS.length c ∧ RSo (fun b => b ≠ B) w a LS.length c ad cp L := by
  have each : ∀ i, i < LS.length → ∃ t : (Option Addr × Nat) × List T, LS[i]? = some (.slice t.1.1 t.2.length t.1.2) ∧ RL w t.1.1 t.1.2 t.2 ∧ (t.2.length = 0 ∨ ∀ b off, t.1.1 = some ⟨b, off, none⟩ → b ≠ B) := fun i hi => by
    obtain ⟨a, n, c, f, e, hr, _, hb⟩ := hE (LS[i]) (List.getElem_mem hi)
    obtain ⟨X, rfl, hX⟩ := list_of hr
    exact ⟨((a, c), X), by rw [List.getElem?_eq_getElem hi, e], hX, hb.imp id (fun ⟨b, off, e1, hlo, _⟩ b' off' e2 => by rw [e1] at e2; cases e2; omega)⟩
  haveI : Inhabited ((Option Addr × Nat) × List T) := ⟨((none, 0), [])⟩
  obtain ⟨q, hq⟩ := choose_lt each
  rcases h.2 with ⟨hv, h0⟩ | ⟨b, cap, cur, hv, hlo, hg, hnc, _⟩
  · exact ⟨none, 0, fun i => (q i).1.1, fun i => (q i).1.2, fun i => (q i).2, by rw [hv, h0], ⟨by omega, by omega, .inl h0, fun i hi => (hq i hi).2.1⟩, .inl h0, fun i hi => (hq i hi).2.2⟩
  · have hr := h
    rw [hv] at hr
    refine ⟨some ⟨b, 0, none⟩, cap, fun i => (q i).1.1, fun i => (q i).1.2, fun i => (q i).2, hv, ⟨hnc, by omega, .inr ⟨b, 0, rfl, (hr.lt b rfl).2, fun i hi => ?_⟩, fun i hi => (hq i hi).2.1⟩, .inr (fun b' off' e => ?_), fun i hi => (hq i hi).2.2⟩
    · rw [Nat.zero_add, hr.cellAt i (by omega), (hq i hi).1]
    · cases e; omega
/-- so does the list of a basis that was made behind it. -/
theorem rso_base {Y : Nat → Prop} {w : World} {lo : Nat} {tvL tvP : Value} {g nL : Nat} {L : Nat → List T} {nP : Nat} {Q : Nat → Nat → List T} {LS PS : List Value} (h : BsW Y w lo tvL tvP g nL L nP Q LS PS) (hn : nL ≤ 100) {B : Nat} (hB : Y B) : ∃ a c ad cp, tvL = .slice a nL c ∧ RSo (fun b => b ≠ B) w a nL c ad cp L := by
  have each : ∀ i, i < nL → ∃ t : Option Addr × Nat, LS[i]? = some (.slice t.1 (L i).length t.2) ∧ RLo (NB Y tvL tvP) w t.1 t.2 (L i) := fun i hi => by
    obtain ⟨a, c, e, hr⟩ := h.eL i hi
    exact ⟨(a, c), e, hr⟩
  haveI : Inhabited (Option Addr × Nat) := ⟨(none, 0)⟩
  obtain ⟨q, hq⟩ := choose_lt each
  have el : ∀ i, i < nL → (L i).length = 0 ∨ ∀ b off, (q i).1 = some ⟨b, off, none⟩ → b ≠ B := fun i hi => ((hq i hi).2.2).imp id (fun k b off e q' => (k b off e).2.2 (by rw [q']; exact hB))
  rcases h.rL.2 with ⟨hv, h0⟩ | ⟨b, cap, cur, hv, hlo, hg, hnc, _⟩
  · exact ⟨none, 0, fun i => (q i).1, fun i => (q i).2, by rw [hv, h0], ⟨by omega, by omega, .inl h0, fun i hi => (hq i hi).2.1⟩, .inl h0, el⟩
  · have hr := h.rL
    rw [hv] at hr
    refine ⟨some ⟨b, 0, none⟩, cap, fun i => (q i).1, fun i => (q i).2, hv, ⟨hnc, by omega, .inr ⟨b, 0, rfl, (hr.lt b rfl).2, fun i hi => ?_⟩, fun i hi => (hq i hi).2.1⟩, .inr (fun b' off' e q' => ?_), el⟩
    · rw [Nat.zero_add, hr.cellAt i (by omega), (hq i hi).1]
    · cases e
      exact (h.nL b (by rw [hv]; rfl)).2 (by rw [q']; exact hB)
def BaseP (w : World) (B p : Nat) (e : Ending) (w' : World) : Prop := ∃ (o : Int) (a : Option Addr) (n c : Nat) (ad : Nat → Option Addr) (cp : Nat → Nat) (L : Nat → List T) (q : Nat), e = .returned (.tuple #[.int .i64 o, .slice a n c]) ∧ RSo (fun b => b ≠ B) w' a n c ad cp L ∧ n ≤ 12 ∧ q ≤ p + 1010 ∧ Rdr w' B q ∧ Beside B w w'
theorem grbMake_m {o : Int} {n : Nat} {L : Nat → List T} {fuel : Int} : (grbMake o n L fuel).1.m ≤ 12 := by
  obtain ⟨B, d, h⟩ : ∃ B d, grbMake o n L fuel = (B, d) := ⟨_, _, rfl⟩
  rw [h]
  rcases grbMake_mk h with ⟨h0, _⟩ | ⟨_, j, hm, _⟩
  · show B.m ≤ 12; omega
  · exact (lstOk_all hm.ok.l).1
set_option maxRecDepth 100000 in
set_option maxHeartbeats 4000000 in
theorem base_any (w : World) (B p : Nat) (h : Rdr w B p) (hp : p ≤ 700) :
    Calls Tryz.prog 59 #[.pointer (some ⟨B, 0, none⟩)] w (BaseP w B p) := by
  have hB := h.lt
  go_enter Tryz.func59, Tryz.ntmps59
  go_wp2_with fail
  refine (order_any w _ _ h (by omega)).mono ?_
  rintro e w2 ⟨o, rfl, hR2, s2⟩
  have hs2 := s2.size
  have HS2 := Hid.mk' s2
  clear h s2
  go_wp2_with fail
  refine (list_any w2 _ _ 2 24 hR2 (by omega) (by omega) (by omega) (by omega) (by omega)).mono ?_
  rintro e w4 ⟨v, LS, q', rfl, ho, hlen, hE, hq', hR4, s4⟩
  obtain ⟨aa, ca, ada, cpa, L, rfl, hra⟩ := rso_list (B := B) ho hE (by omega) (by omega) (by omega)
  have hs4 := s4.size
  have HS4 := Hid.mk' (HS2.out.trans s4)
  have HRA := Hid.mk' hra
  have HR4 := Hid.mk' hR4
  clear hR2 hR4 s4 hra ho hE HS2
  go_wp2_with fail
  refine (grbMakeS w4 o aa LS.length ca ada cpa L HRA.out.1 60).mono ?_
  have hm12 := grbMake_m (o := o) (n := LS.length) (L := L) (fuel := 60)
  obtain ⟨X, d, hX⟩ : ∃ X d, grbMake o LS.length L 60 = (X, d) := ⟨_, _, rfl⟩
  rw [hX] at hm12 ⊢
  rintro e w5 ⟨tvL, tvP, LS5, PS5, rfl, hb5, hk5⟩
  have hm12' : X.m ≤ 12 := hm12
  obtain ⟨la, lc, lad, lcp, rfl, hrl⟩ := rso_base hk5 (show X.m ≤ 100 by omega) (B := B) (show B < w4.heap.size by omega)
  obtain ⟨pa, pc, pA, pC, pAD, pCP, rfl, _⟩ := hk5.readP (show X.m ≤ 100 by omega)
  have hs5 := hb5.size
  have HRA5 := Hid.mk' (HRA.out.below hb5)
  have HRL5 := Hid.mk' hrl
  have HR5 := Hid.mk' (HR4.out.grown (below_grown hb5 none) (fun _ e => by cases e))
  have HS5 : Hid (Beside B w w5) := HS4.out.trans ⟨hb5.os, hb5.tape, hb5.output, hb5.size, fun k hk _ => hb5.block k hk⟩
  have hBw : B < w5.heap.size := by omega
  clear HRA HR4 HS4 hb5 hk5 hrl hX hm12
  -- the basis's box
  have bx := bel_one w5 (.cells #[.slice la X.m lc, .slice pa X.m pc, .bool d] 77)
  have HX6 := Hid.mk' (Own3.box w5 77 (.slice la X.m lc) (.slice pa X.m pc) (.bool d))
  have HR6 := Hid.mk' (HR5.out.alloc (.cells #[.slice la X.m lc, .slice pa X.m pc, .bool d] 77))
  have HRA6 := Hid.mk' (HRA5.out.below bx)
  have HRL6 := Hid.mk' (HRL5.out.below bx)
  have HS6 := Hid.mk' (HS5.out.alloc (.cells #[.slice la X.m lc, .slice pa X.m pc, .bool d] 77))
  clear HRA5 HRL5 HR5 HS5 bx
  go_wp2_with fail
  refine (pick_any _ B _ 3 HR6.out (by omega) (by omega) (by omega)).mono ?_
  rintro e w7 ⟨x, rfl, hx0, hx3, hp7⟩
  have s7 := hp7.beside
  have HR7 := Hid.mk' (hp7.rdr HR6.out)
  have HRA7 := Hid.mk' (HRA6.out.beside s7)
  have HRL7 := Hid.mk' (HRL6.out.beside s7)
  have HS7 := Hid.mk' (HS6.out.trans s7)
  obtain ⟨⟨c0, c1, c2⟩, cz⟩ := HX6.out.fr (fr_beside s7) (by omega)
  clear hp7 s7 HRA6 HRL6 HR6 HS6 HX6
  by_cases hx : 0 < x
  · cases d
    · go_wp2
      refine bodyPost_ret (v := .tuple #[.int .i64 o, .slice aa LS.length ca]) (by simp [results, Tryz.results59, go_sem, *]) rfl ?_
      exact ⟨o, aa, LS.length, ca, ada, cpa, L, _, rfl, HRA7.out, by omega, by omega, HR7.out, HS7.out⟩
    · go_wp2_with fail
      have hS : w7.drew.cell? ⟨w5.heap.size, 0, none⟩ = some (.slice la X.m lc) := c0
      go_region_held3 (fun u => u.cell? ⟨w5.heap.size, 0, none⟩ = some (.slice la X.m lc)) (with_reducible exact hS) (fail)
      go_wp2
      refine bodyPost_ret (v := .tuple #[.int .i64 o, .slice la X.m lc]) (by simp [results, Tryz.results59, go_sem, *]) rfl ?_
      exact ⟨o, la, X.m, lc, lad, lcp, X.L, _, rfl, HRL7.out.below (Below.refl _ _).drew, hm12', by omega, HR7.out.drewN 1, HS7.out.drew⟩
  · go_wp2
    refine bodyPost_ret (v := .tuple #[.int .i64 o, .slice aa LS.length ca]) (by simp [results, Tryz.results59, go_sem, *]) rfl ?_
    exact ⟨o, aa, LS.length, ca, ada, cpa, L, _, rfl, HRA7.out, by omega, by omega, HR7.out, HS7.out⟩
end Go.Proofs.YtdidlcjhodejjaaGreat
