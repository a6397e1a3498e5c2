/-
  What GrbMake hands back, laid open; boxes of bases.
-/
import Derived.Test.YtmlaedpamobmhaaGreatGbt
import Derived.Test.YtmlaedpamobmhaaGreatGbv
import Derived.Test.YtmlaedpamobmhaaGreatGby
import Derived.Test.YtmlaedpamobmhaaGreatGbh
namespace Go.Proofs.YtmlaedpamobmhaaGreat
open Go.RowKit Go.Deep Go.Joins
set_option linter.unusedVariables false

/-- what a making hands back, laid open. -/
def MkO (w : World) (n m : Nat) (BL : Nat → List T) (BP : Nat → Nat → List T) (d : Bool) (e : Ending) (w' : World) : Prop := ∃ (a : Option Addr) (c : Nat) (ad : Nat → Option Addr) (cp : Nat → Nat) (pa : Option Addr) (pc : Nat) (A : Nat → Option Addr) (C : Nat → Nat) (AD : Nat → Nat → Option Addr) (CP : Nat → Nat → Nat), e = .returned (.agg #[.slice a m c, .slice pa m pc, .bool d]) ∧ Below w.heap.size w w' ∧ RdS w' a m c ad (lN BL) cp (fN BL) ∧ R3 w' pa m pc n A C AD CP BP
theorem make_open {w : World} {n m : Nat} {BL : Nat → List T} {BP : Nat → Nat → List T} {d : Bool} (hm : m ≤ 12) {e : Ending} {w' : World} (h : MakeP w n (⟨m, BL, BP⟩, d) e w') : MkO w n m BL BP d e w' := by
  obtain ⟨tvL, tvP, LS, PS, he, hb, hk⟩ := h
  have hk' : BsW (fun b => b < w.heap.size) w' w.heap.size tvL tvP n m BL m BP LS PS := hk
  obtain ⟨a, c, ad, cp, rfl, hr⟩ := hk'.readL (by omega)
  obtain ⟨pa, pc, A, C, AD, CP, rfl, hp⟩ := hk'.readP (by omega)
  exact ⟨a, c, ad, cp, pa, pc, A, C, AD, CP, he, hb, hr, hp⟩
theorem mk_m {o : Int} {n : Nat} {L : Nat → List T} {fuel : Int} {m : Nat} {BL : Nat → List T} {BP : Nat → Nat → List T} {d : Bool} (h : grbMake o n L fuel = (⟨m, BL, BP⟩, d)) : m ≤ 12 := by
  have := grbMake_m (o := o) (n := n) (L := L) (fuel := fuel)
  rw [h] at this
  exact this
theorem mkI {w : World} {o : Int} {a : Option Addr} {n cap : Nat} {ad : Nat → Option Addr} {cp : Nat → Nat} {L : Nat → List T} (h : RdS w a n cap ad (lN L) cp (fN L)) {fuel : Int} {m : Nat} {BL : Nat → List T} {BP : Nat → Nat → List T} {d : Bool} (hX : grbMake o n L fuel = (⟨m, BL, BP⟩, d)) : Calls Tryz.prog 10 #[.int .i64 o, .slice a n cap, .int .i64 fuel] w (MkO w n m BL BP d) :=
  (grbMakeI w o a n cap ad cp L h fuel).mono fun e w' k => make_open (mk_m hX) (by rw [hX] at k; exact k)
theorem mkS {w : World} {o : Int} {a : Option Addr} {n cap : Nat} {ad : Nat → Option Addr} {cp : Nat → Nat} {L : Nat → List T} (h : RdS w a n cap ad (lN L) cp (fN L)) {fuel : Int} {m : Nat} {BL : Nat → List T} {BP : Nat → Nat → List T} {d : Bool} (hX : grbMake o n L fuel = (⟨m, BL, BP⟩, d)) : Calls Tryz.prog 12 #[.int .i64 o, .slice a n cap, .int .i64 fuel] w (MkO w n m BL BP d) :=
  (grbMakeS w o a n cap ad cp L h fuel).mono fun e w' k => make_open (mk_m hX) (by rw [hX] at k; exact k)
/-- the case of a making. -/
theorem mk_case {o : Int} {n : Nat} {L : Nat → List T} {fuel : Int} {m : Nat} {BL : Nat → List T} {BP : Nat → Nat → List T} {d : Bool} (h : grbMake o n L fuel = (⟨m, BL, BP⟩, d)) : (m = 0 ∧ d = false) ∨ ((1 ≤ o ∧ o ≤ 3) ∧ lstOk n (lN L) (fN L) = true ∧ (1 ≤ n ∧ n ≤ 3) ∧ (0 ≤ fuel ∧ fuel ≤ 60) ∧ n ≤ m ∧ (∀ i, i < n → BL i = L i) ∧ lstOk m (lN BL) (fN BL) = true ∧ (d = true → Bas o m BL) ∧ ∀ i, i < m → ∀ x, redSum n (lN (BP i)) (fN (BP i)) n (lN L) (fN L) = (x, true) → x = BL i) := by
  rcases grbMake_mk h with ⟨h0, h1, _⟩ | ⟨⟨h1, h2, h3, h4⟩, j, hm, hj⟩
  · exact .inl ⟨h0, h1⟩
  · exact .inr ⟨h1, h2, h3, h4, hm.le, hm.pre, hm.ok.l, fun q => hm.bas (hj q), fun i hi x hx => hm.proof hi hx⟩
/-- one pair more. -/
theorem mk_next {o : Int} {n : Nat} {L : Nat → List T} {fuel : Int} {m m' : Nat} {BL BL' : Nat → List T} {BP BP' : Nat → Nat → List T} {d d' : Bool} (h : grbMake o n L fuel = (⟨m, BL, BP⟩, d)) (h' : grbMake o n L (fuel + 1) = (⟨m', BL', BP'⟩, d')) (hm : m ≠ 0) (hf : fuel ≠ 60) : (m ≤ m' ∧ ∀ i, i < m → BL' i = BL i) ∧ (d = true → (m' = m ∧ BL' = BL ∧ BP' = BP ∧ d' = true)) := by
  rcases mk_case h with ⟨h0, _⟩ | ⟨ho, hl, hn, hf1, _⟩
  · exact absurd h0 hm
  have hc : (1 ≤ o ∧ o ≤ 3) ∧ lstOk n (lN L) (fN L) = true ∧ (1 ≤ n ∧ n ≤ 3) ∧ (0 ≤ fuel ∧ fuel ≤ 60) := ⟨ho, hl, hn, hf1⟩
  have hc' : (1 ≤ o ∧ o ≤ 3) ∧ lstOk n (lN L) (fN L) = true ∧ (1 ≤ n ∧ n ≤ 3) ∧ (0 ≤ fuel + 1 ∧ fuel + 1 ≤ 60) := ⟨ho, hl, hn, by omega, by omega⟩
  unfold grbMake at h h'
  rw [if_pos hc] at h
  rw [if_pos hc', show (fuel + 1).toNat = fuel.toNat + 1 by omega] at h'
  have k1 := grun_next (o := o) (g := n) fuel.toNat (grb0 n L) 0
  have k2 := grun_done (o := o) (g := n) fuel.toNat (grb0 n L) 0
  rw [h, h'] at k1
  rw [h, h'] at k2
  refine ⟨k1, fun hd => ?_⟩
  have e := k2 hd
  simp only [Prod.mk.injEq, Bs.mk.injEq] at e
  exact ⟨e.1.1, e.1.2.1, e.1.2.2, e.2.trans hd⟩
theorem rds_congr {w : World} {a : Option Addr} {n c : Nat} {ad : Nat → Option Addr} {cp : Nat → Nat} {L L' : Nat → List T} (h : RdS w a n c ad (lN L) cp (fN L)) (e : ∀ i, i < n → L i = L' i) : RdS w a n c ad (lN L') cp (fN L') := by
  have e1 : ∀ i, i < n → lN L' i = lN L i := fun i hi => by unfold lN; rw [e i hi]
  have e2 : ∀ i, i < n → fN L' i = fN L i := fun i hi => by unfold fN; rw [e i hi]
  refine ⟨h.1, h.2.1, h.2.2.1.imp id (fun ⟨b, off, h1, h2, h3⟩ => ⟨b, off, h1, h2, fun i hi => by rw [e1 i hi]; exact h3 i hi⟩), fun i hi => by rw [e1 i hi, e2 i hi]; exact h.2.2.2 i hi⟩
theorem rds_takeM {w : World} {a : Option Addr} {n c m : Nat} {ad : Nat → Option Addr} {cp : Nat → Nat} {L : Nat → List T} (h : RdS w a n c ad (lN L) cp (fN L)) (hm : m ≤ n) : RdS w a m c ad (lN L) cp (fN L) := by
  obtain ⟨h1, h2, h3, h4⟩ := h
  refine ⟨by omega, by omega, ?_, fun i hi => h4 i (by omega)⟩
  rcases h3 with h0 | ⟨b, off, e, hlt, hc⟩
  · exact .inl (by omega)
  · exact .inr ⟨b, off, e, hlt, fun i hi => hc i (by omega)⟩
abbrev C3k (b : Nat) (v0 v1 v2 : Value) (u : World) : Prop := u.cell? ⟨b, 0, none⟩ = some v0 ∧ u.cell? ⟨b, 1, none⟩ = some v1 ∧ u.cell? ⟨b, 2, none⟩ = some v2
theorem C3k.below {b : Nat} {v0 v1 v2 : Value} {u u' : World} (h : C3k b v0 v1 v2 u) (hb : Below u.heap.size u u') : C3k b v0 v1 v2 u' :=
  ⟨(hb.cell (p := ⟨b, 0, none⟩) (World.block_lt_of_cell? u _ h.1)).trans h.1, (hb.cell (p := ⟨b, 1, none⟩) (World.block_lt_of_cell? u _ h.2.1)).trans h.2.1, (hb.cell (p := ⟨b, 2, none⟩) (World.block_lt_of_cell? u _ h.2.2)).trans h.2.2⟩
theorem rsum_I {w : World} {a1 : Option Addr} {n1 c1 : Nat} {ad1 : Nat → Option Addr} {ln1 cp1 : Nat → Nat} {f1 : Nat → Nat → T} (h1 : RdS w a1 n1 c1 ad1 ln1 cp1 f1) {a2 : Option Addr} {n2 c2 : Nat} {ad2 : Nat → Option Addr} {ln2 cp2 : Nat → Nat} {f2 : Nat → Nat → T} (h2 : RdS w a2 n2 c2 ad2 ln2 cp2 f2) : Calls Tryz.prog 16 #[.slice a1 n1 c1, .slice a2 n2 c2] w (Two2 w (redSum n1 ln1 f1 n2 ln2 f2)) :=
  (redSumI w a1 n1 c1 ad1 ln1 cp1 f1 h1 a2 n2 c2 ad2 ln2 cp2 f2 h2).mono fun _ _ h => two_out h
end Go.Proofs.YtmlaedpamobmhaaGreat
