/-
  Bases: how they are counted, copied and held against each other.
-/
import Derived.Test.YtllfgoepfeoclaaGreatL3
import Derived.Test.YtllfgoepfeoclaaGreatLOpen
namespace Go.Proofs.YtllfgoepfeoclaaGreat
open Go.RowKit Go.Deep Go.Joins
set_option linter.unusedVariables false

/-- the cells of a slice's slices. -/
def Sls (w : World) (a : Option Addr) (n : Nat) (A : Nat → Option Addr) (N C : Nat → Nat) : Prop := n = 0 ∨ ∃ b off, a = some ⟨b, off, none⟩ ∧ b < w.heap.size ∧ ∀ i, i < n → w.cell? ⟨b, off + i, none⟩ = some (.slice (A i) (N i) (C i))
theorem Sls.below {w w' : World} {a : Option Addr} {n : Nat} {A : Nat → Option Addr} {N C : Nat → Nat} (h : Sls w a n A N C) (hb : Below w.heap.size w w') : Sls w' a n A N C :=
  h.imp id fun ⟨b, off, he, hlt, hc⟩ => ⟨b, off, he, Nat.lt_of_lt_of_le hlt hb.size, fun i hi => (hb.cell (p := ⟨b, off + i, none⟩) hlt).trans (hc i hi)⟩
/-- a slice of slices of slices of terms that came in. -/
def Is3 (w : World) (a : Option Addr) (n cap : Nat) (A : Nat → Option Addr) (C : Nat → Nat) (AD : Nat → Nat → Option Addr) (CP : Nat → Nat → Nat) (N : Nat → Nat) (L : Nat → Nat → Nat) (F : Nat → Nat → Nat → T) : Prop :=
  n ≤ cap ∧ cap ≤ maxLen ∧ Sls w a n A N C ∧ ∀ i, i < n → IsLists w (A i) (N i) (C i) (AD i) (L i) (CP i) (F i)
theorem Is3.rd {w : World} {a : Option Addr} {n cap : Nat} {A : Nat → Option Addr} {C : Nat → Nat} {AD : Nat → Nat → Option Addr} {CP : Nat → Nat → Nat} {N : Nat → Nat} {L : Nat → Nat → Nat} {F : Nat → Nat → Nat → T} (h : Is3 w a n cap A C AD CP N L F) (hn : n * 40 ≤ 140737488351232) (hN : ∀ i, i < n → N i * 40 ≤ 140737488351232) (hl : ∀ i, i < n → ∀ j, j < N i → L i j * 40 ≤ 140737488351232) : Rd3 w a n cap A C AD CP N L F :=
  ⟨h.1, hn, h.2.2.1, fun i hi => (h.2.2.2 i hi).rd (hN i hi) (hl i hi)⟩
set_option maxHeartbeats 4000000 in
theorem szBase (la : Option Addr) (nb lc : Nat) (ad : Nat → Option Addr) (ln cp : Nat → Nat) (f : Nat → Nat → T) (pa : Option Addr) (np pc : Nat) (A : Nat → Option Addr) (C : Nat → Nat) (AD : Nat → Nat → Option Addr) (CP : Nat → Nat → Nat) (N : Nat → Nat) (L : Nat → Nat → Nat) (F : Nat → Nat → Nat → T) (d : Bool) (w : World) (h1 : IsLists w la nb lc ad ln cp f) (h2 : Is3 w pa np pc A C AD CP N L F) :
    Calls Tryz.prog 13 #[.agg #[.slice la nb lc, .slice pa np pc, .bool d], .int .i64 1048576] w fun r w' => ∃ z : Int, r = .returned (.int .i64 z) ∧ Below w.heap.size w w' ∧ z ≤ 1048576 ∧ (0 ≤ z → ((nb : Int) ≤ 1048576 ∧ ∀ i, i < nb → (ln i : Int) ≤ 1048576) ∧ (np : Int) ≤ 1048576 ∧ ∀ i, i < np → (N i : Int) ≤ 1048576 ∧ ∀ j, j < N i → (L i j : Int) ≤ 1048576) := by
  have q0 : (nb : Int) ≤ 9223372036854775807 := by have := h1.1; have := h1.2.1; unfold maxLen at this; omega
  have q1 : Hid (∀ i, i < nb → (ln i : Int) ≤ 9223372036854775807) := fun i hi => by have h := h1.2.2.2 i hi; have := h.1; have := h.2.1; unfold maxLen at this; omega
  have q2 : (np : Int) ≤ 9223372036854775807 := by have := h2.1; have := h2.2.1; unfold maxLen at this; omega
  have q3 : Hid (∀ i, i < np → (N i : Int) ≤ 9223372036854775807) := fun i hi => by have h := h2.2.2.2 i hi; have := h.1; have := h.2.1; unfold maxLen at this; omega
  have q4 : Hid (∀ i, i < np → ∀ j, j < N i → (L i j : Int) ≤ 9223372036854775807) := fun i hi j hj => by have h := (h2.2.2.2 i hi).2.2.2 j hj; have := h.1; have := h.2.1; unfold maxLen at this; omega
  have HB0 := Hid.mk' (bel_one w (.cells #[.slice la nb lc, .slice pa np pc, .bool d] 34))
  have s1 : Hid (Sls w la nb ad ln cp) := h1.2.2.1
  have s2 : Hid (Sls w pa np A N C) := h2.2.2.1
  have s3 : Hid (∀ i, i < np → Sls w (A i) (N i) (AD i) (L i) (CP i)) := fun i hi => (h2.2.2.2 i hi).2.2.1
  clear h1 h2
  go_enter Tryz.func13, Tryz.ntmps13
  go_wp2_with fail
  refine (szLists la nb lc ad ln cp 1048576 _ q0 (by omega) (by omega) (s1.out.below HB0.out) q1.out).mono ?_
  rintro e w' ⟨z, rfl, hw', hz1, hz⟩
  obtain rfl := hw'.symm
  have HZ := Hid.mk' hz
  clear hw' q1 hz s1
  by_cases hneg : z < 0
  · go_wp2
    go_ret
    exact ⟨-1, rfl, HB0.out, by omega, fun h => by omega⟩
  have z0 : 0 ≤ z := by omega
  go_wp2_with fail
  refine (szLists3 pa np pc A C AD CP N L z _ q2 z0 hz1 (s2.out.below HB0.out) q3.out (fun i hi => (s3.out i hi).below HB0.out) q4.out).mono ?_
  rintro e w' ⟨y, rfl, hw', hy1, hy⟩
  obtain rfl := hw'.symm
  have HY := Hid.mk' hy
  clear hw' q3 q4 hy s2 s3
  by_cases hneg2 : y < 0
  · go_wp2
    go_ret
    exact ⟨-1, rfl, HB0.out, by omega, fun h => by omega⟩
  · go_wp2
    go_ret
    refine ⟨y, rfl, HB0.out, by omega, fun h => ⟨HZ.out z0, ?_⟩⟩
    have h' := HY.out h
    exact ⟨by omega, fun i hi => ⟨by have := (h'.2 i hi).1; omega, fun j hj => by have := (h'.2 i hi).2 j hj; omega⟩⟩
/-- what a copy of a basis leaves. -/
theorem Cp2.low {w : World} {lo lo' B n : Nat} {ln : Nat → Nat} {f : Nat → Nat → T} (h : Cp2 w lo B n ln f) (hl : lo' ≤ lo) : Cp2 w lo' B n ln f := by
  obtain ⟨BB, h1, h2, h3⟩ := h
  exact ⟨BB, Nat.le_trans hl h1, h2, h3⟩
theorem Cp3.low {w : World} {lo lo' G n : Nat} {N : Nat → Nat} {L : Nat → Nat → Nat} {F : Nat → Nat → Nat → T} (h : Cp3 w lo G n N L F) (hl : lo' ≤ lo) : Cp3 w lo' G n N L F := by
  obtain ⟨BB, h1, h2, h3⟩ := h
  exact ⟨BB, Nat.le_trans hl h1, h2, h3⟩
def CpB (w : World) (lo G1 G2 nb : Nat) (ln : Nat → Nat) (f : Nat → Nat → T) (np : Nat) (N : Nat → Nat) (L : Nat → Nat → Nat) (F : Nat → Nat → Nat → T) : Prop := Cp2 w lo G1 nb ln f ∧ Cp3 w lo G2 np N L F
theorem CpB.below {w w' : World} {lo G1 G2 nb : Nat} {ln : Nat → Nat} {f : Nat → Nat → T} {np : Nat} {N : Nat → Nat} {L : Nat → Nat → Nat} {F : Nat → Nat → Nat → T} (h : CpB w lo G1 G2 nb ln f np N L F) (hb : Below w.heap.size w w') : CpB w' lo G1 G2 nb ln f np N L F := ⟨h.1.below hb, h.2.below hb⟩
set_option maxRecDepth 100000 in
set_option maxHeartbeats 4000000 in
theorem toBase (la : Option Addr) (nb lc : Nat) (ad : Nat → Option Addr) (ln cp : Nat → Nat) (f : Nat → Nat → T) (pa : Option Addr) (np pc : Nat) (A : Nat → Option Addr) (C : Nat → Nat) (AD : Nat → Nat → Option Addr) (CP : Nat → Nat → Nat) (N : Nat → Nat) (L : Nat → Nat → Nat) (F : Nat → Nat → Nat → T) (d : Bool) (w : World) (h1 : RdS w la nb lc ad ln cp f) (h2 : Rd3 w pa np pc A C AD CP N L F) :
    Calls Tryz.prog 16 #[.agg #[.slice la nb lc, .slice pa np pc, .bool d]] w fun r w' => ∃ G1 G2, r = .returned (.agg #[.slice (some ⟨G1, 0, none⟩) nb nb, .slice (some ⟨G2, 0, none⟩) np np, .bool d]) ∧ Below w.heap.size w w' ∧ CpB w' w.heap.size G1 G2 nb ln f np N L F := by
  have H1 := Hid.mk' h1
  have H2 := Hid.mk' h2
  clear h1 h2
  have HB0 := Hid.mk' (bel_three w (.cells #[.slice la nb lc, .slice pa np pc, .bool d] 34) (.cells #[.slice none 0 0, .slice none 0 0, .bool false] 41) (.cells #[.slice none 0 0, .slice none 0 0, .bool false] 41))
  go_enter Tryz.func16, Tryz.ntmps16
  go_wp2_with fail
  refine (toLists _ _ _ _ _ _ _ _ (H1.out.below HB0.out)).mono ?_
  rintro e w1 ⟨BB, rfl, hb, hr, ho⟩
  have HB1 := Hid.mk' (bel_next HB0.out hb)
  obtain ⟨hc1, hf1⟩ := bcell hb
  have hz1 : w.heap.size + 1 + 1 < w1.heap.size := by have := hb.size; simp at this; omega
  have hz2 : w.heap.size + 1 < w1.heap.size := by omega
  have hz3 : w.heap.size < w1.heap.size := by omega
  have k0 : w1.cell? ⟨w.heap.size, 1, none⟩ = some (.slice pa np pc) := by go_simp
  have k1 : w1.cell? ⟨w.heap.size, 2, none⟩ = some (.bool d) := by go_simp
  have a0 : w1.cell? ⟨w.heap.size + 1 + 1, 0, none⟩ = some (.slice none 0 0) := by go_simp
  have a1 : w1.cell? ⟨w.heap.size + 1 + 1, 1, none⟩ = some (.slice none 0 0) := by go_simp
  have a2 : w1.cell? ⟨w.heap.size + 1 + 1, 2, none⟩ = some (.bool false) := by go_simp
  have az : ∀ i, w1.frozen? ⟨w.heap.size + 1 + 1, i, none⟩ = false := fun i => by go_simp
  have b0 : w1.cell? ⟨w.heap.size + 1, 0, none⟩ = some (.slice none 0 0) := by go_simp
  have b1 : w1.cell? ⟨w.heap.size + 1, 1, none⟩ = some (.slice none 0 0) := by go_simp
  have b2 : w1.cell? ⟨w.heap.size + 1, 2, none⟩ = some (.bool false) := by go_simp
  have bz : ∀ i, w1.frozen? ⟨w.heap.size + 1, i, none⟩ = false := fun i => by go_simp
  have hG : w.heap.size + 1 + 1 < (((w.alloc (.cells #[.slice la nb lc, .slice pa np pc, .bool d] 34)).alloc (.cells #[.slice none 0 0, .slice none 0 0, .bool false] 41)).alloc (.cells #[.slice none 0 0, .slice none 0 0, .bool false] 41)).heap.size := by simp
  generalize (((w.alloc (.cells #[.slice la nb lc, .slice pa np pc, .bool d] 34)).alloc (.cells #[.slice none 0 0, .slice none 0 0, .bool false] 41)).alloc (.cells #[.slice none 0 0, .slice none 0 0, .bool false] 41)).heap.size = G1 at *
  have cp1 : Cp2 w1 (w.heap.size + 1 + 1 + 1) G1 nb ln f := ⟨BB, hG, hr, ho⟩
  have CP1 := Hid.mk' (cp1.set (g := w.heap.size + 1 + 1) (o := 0) (v := .slice (some ⟨G1, 0, none⟩) nb nb) (by omega))
  have HBs := Hid.mk' (HB1.out.setCell (p := ⟨w.heap.size + 1 + 1, 0, none⟩) (show w.heap.size ≤ w.heap.size + 1 + 1 by omega) (.slice (some ⟨G1, 0, none⟩) nb nb))
  clear hc1 hf1 hb hr ho cp1
  go_wp2_with fail
  refine (toLists3 _ _ _ _ _ _ _ _ _ _ _ (H2.out.below HBs.out)).mono ?_
  rintro e w2 ⟨rfl, hb, cp3⟩
  have HB2 := Hid.mk' (bel_next HBs.out hb)
  have CP2 := Hid.mk' (CP1.out.below hb)
  obtain ⟨hc1, hf1⟩ := bcell hb
  have hz4 : w.heap.size + 1 + 1 < w2.heap.size := by have := hb.size; simp at this; omega
  have hz5 : w.heap.size + 1 < w2.heap.size := by omega
  have hz6 : w.heap.size < w2.heap.size := by omega
  have k2 : w2.cell? ⟨w.heap.size, 2, none⟩ = some (.bool d) := by go_simp
  have c0 : w2.cell? ⟨w.heap.size + 1 + 1, 0, none⟩ = some (.slice (some ⟨G1, 0, none⟩) nb nb) := by go_simp
  have c1 : w2.cell? ⟨w.heap.size + 1 + 1, 1, none⟩ = some (.slice none 0 0) := by go_simp
  have c2 : w2.cell? ⟨w.heap.size + 1 + 1, 2, none⟩ = some (.bool false) := by go_simp
  have cz : ∀ i, w2.frozen? ⟨w.heap.size + 1 + 1, i, none⟩ = false := fun i => by go_simp
  have d0 : w2.cell? ⟨w.heap.size + 1, 0, none⟩ = some (.slice none 0 0) := by go_simp
  have d1 : w2.cell? ⟨w.heap.size + 1, 1, none⟩ = some (.slice none 0 0) := by go_simp
  have d2 : w2.cell? ⟨w.heap.size + 1, 2, none⟩ = some (.bool false) := by go_simp
  have dz : ∀ i, w2.frozen? ⟨w.heap.size + 1, i, none⟩ = false := fun i => by go_simp
  have hG2 : w.heap.size + 1 + 1 < (w1.setCell ⟨w.heap.size + 1 + 1, 0, none⟩ (.slice (some ⟨G1, 0, none⟩) nb nb)).heap.size := by rw [size_set]; exact hz1
  generalize (w1.setCell ⟨w.heap.size + 1 + 1, 0, none⟩ (.slice (some ⟨G1, 0, none⟩) nb nb)).heap.size = G2 at *
  have CP3 := Hid.mk' (cp3.low (lo' := w.heap.size + 1 + 1 + 1) hG2)
  clear hc1 hf1 hb cp3 k0 k1 a0 a1 a2 az b0 b1 b2 bz hz1 hz2 hz3 HBs HB1 HB0 CP1 H1 H2 hG hG2
  go_wp2
  refine bodyPost_ret (v := .agg #[.slice (some ⟨G1, 0, none⟩) nb nb, .slice (some ⟨G2, 0, none⟩) np np, .bool d]) (by simp [results, Tryz.results16, go_sem, *]) rfl ⟨G1, G2, rfl, ?_, ?_, ?_⟩
  · exact ((((HB2.out.setCell (by show w.heap.size ≤ w.heap.size + 1 + 1; omega) _).setCell (by show w.heap.size ≤ w.heap.size + 1 + 1; omega) _).setCell (by show w.heap.size ≤ w.heap.size + 1; omega) _).setCell (by show w.heap.size ≤ w.heap.size + 1; omega) _).setCell (by show w.heap.size ≤ w.heap.size + 1; omega) _
  · exact (((((CP2.out.set (by omega)).set (by omega)).set (by omega)).set (by omega)).set (by omega)).low (by omega)
  · exact (((((CP3.out.set (by omega)).set (by omega)).set (by omega)).set (by omega)).set (by omega)).low (by omega)
set_option maxRecDepth 100000 in
set_option maxHeartbeats 4000000 in
theorem eqBase (w : World) (lo lo' G1 G2 G1' G2' nb : Nat) (ln : Nat → Nat) (f : Nat → Nat → T) (np : Nat) (N : Nat → Nat) (L : Nat → Nat → Nat) (F : Nat → Nat → Nat → T) (d : Bool) (h : CpB w lo G1 G2 nb ln f np N L F) (h' : CpB w lo' G1' G2' nb ln f np N L F) (kn : nb * 40 ≤ 140737488351232) (kl : ∀ i, i < nb → ln i * 40 ≤ 140737488351232) (kp : np * 40 ≤ 140737488351232) (kN : ∀ i, i < np → N i * 40 ≤ 140737488351232) (kL : ∀ i, i < np → ∀ j, j < N i → L i j * 40 ≤ 140737488351232) :
    Calls Tryz.prog 19 #[.agg #[.slice (some ⟨G1, 0, none⟩) nb nb, .slice (some ⟨G2, 0, none⟩) np np, .bool d], .agg #[.slice (some ⟨G1', 0, none⟩) nb nb, .slice (some ⟨G2', 0, none⟩) np np, .bool d]] w fun r w' => r = .returned (.bool true) ∧ Below w.heap.size w w' := by
  obtain ⟨ad1, r1⟩ := h.1.rd kn kl
  obtain ⟨A1, AD1, r2⟩ := h.2.rd kp kN kL
  obtain ⟨ad2, r3⟩ := h'.1.rd kn kl
  obtain ⟨A2, AD2, r4⟩ := h'.2.rd kp kN kL
  have R1 := Hid.mk' r1
  have R2 := Hid.mk' r2
  have R3 := Hid.mk' r3
  have R4 := Hid.mk' r4
  have HB0 := Hid.mk' (bel_two w (.cells #[.slice (some ⟨G1, 0, none⟩) nb nb, .slice (some ⟨G2, 0, none⟩) np np, .bool d] 41) (.cells #[.slice (some ⟨G1', 0, none⟩) nb nb, .slice (some ⟨G2', 0, none⟩) np np, .bool d] 41))
  clear h h' kl kN kL r1 r2 r3 r4
  have hdd : (d != d) = false := by simp
  go_enter Tryz.func19, Tryz.ntmps19
  go_wp2_with fail
  refine (eqLists _ _ _ _ _ _ _ _ _ _ _ _ (R1.out.below HB0.out) (R3.out.below HB0.out)).mono ?_
  rintro e w1 ⟨rfl, hb⟩
  have HB1 := Hid.mk' (bel_next HB0.out hb)
  obtain ⟨hc1, hf1⟩ := bcell hb
  have hz1 : w.heap.size + 1 < w1.heap.size := by have := hb.size; simp at this; omega
  have hz2 : w.heap.size < w1.heap.size := by omega
  have a1 : w1.cell? ⟨w.heap.size, 1, none⟩ = some (.slice (some ⟨G2, 0, none⟩) np np) := by go_simp
  have a2 : w1.cell? ⟨w.heap.size, 2, none⟩ = some (.bool d) := by go_simp
  have b1 : w1.cell? ⟨w.heap.size + 1, 1, none⟩ = some (.slice (some ⟨G2', 0, none⟩) np np) := by go_simp
  have b2 : w1.cell? ⟨w.heap.size + 1, 2, none⟩ = some (.bool d) := by go_simp
  clear hc1 hf1 hb R1 R3 HB0
  go_wp2_with fail
  refine (eqLists3 _ _ _ _ _ _ _ _ _ _ _ _ _ _ _ _ _ (R2.out.below HB1.out) (R4.out.below HB1.out)).mono ?_
  rintro e w2 ⟨rfl, hb⟩
  have HB2 := Hid.mk' (bel_next HB1.out hb)
  have c2 : w2.cell? ⟨w.heap.size, 2, none⟩ = some (.bool d) := (hb.cell (p := ⟨w.heap.size, 2, none⟩) hz2).trans a2
  have d2 : w2.cell? ⟨w.heap.size + 1, 2, none⟩ = some (.bool d) := (hb.cell (p := ⟨w.heap.size + 1, 2, none⟩) hz1).trans b2
  clear hb R2 R4 HB1 a1 a2 b1 b2
  go_wp2
  go_ret
  exact ⟨rfl, HB2.out⟩
end Go.Proofs.YtllfgoepfeoclaaGreat
