/-
  The model's division.
-/
import Derived.Test.YtkoaiogakkldgaaGreatDvM
import Derived.Test.YtkoaiogakkldgaaGreatAnS
import Derived.Deep.RegionHeld3
namespace Go.Proofs.YtkoaiogakkldgaaGreat
open Go.RowKit Go.Deep Go.Joins
set_option linter.unusedVariables false
set_option linter.unusedSimpArgs false

set_option maxRecDepth 100000 in
set_option maxHeartbeats 4000000 in
theorem l7FindX (w : World) (o : Int) (a : Option Addr) (n cap : Nat) (ad : Nat → Option Addr) (ln cp : Nat → Nat) (f : Nat → Nat → T) (m : M) (h : RdS w a n cap ad ln cp f) (hok : ∀ i, i < n → ln i ≠ 0 ∧ polOk (ln i) (f i) = true) :
    Calls Tryz.prog 34 #[.int .i64 o, .slice a n cap, .agg #[.int .i64 m.x, .int .i64 m.y, .int .i64 m.d, .int .i64 m.e]] w fun r w' => r = .returned (.int .i64 (dvK o n ln f m)) ∧ Below w.heap.size w w' := by
  have hn : (n : Int) ≤ 140737488351232 := by have := h.2.1; omega
  have HB0 := Hid.mk' (bel_one w (.cells #[.int .i64 m.x, .int .i64 m.y, .int .i64 m.d, .int .i64 m.e] 44))
  have HM0 := Hid.mk' (M4.box w 44 m.x m.y m.d m.e)
  have HH := Hid.mk' h
  have HO := Hid.mk' hok
  clear h hok
  go_enter Tryz.func34, Tryz.ntmps34
  go_wp2
  go_loopw [7] (fun v wr => ∃ i : Nat, i ≤ n ∧ v = .int .i64 (i : Int) ∧ Below w.heap.size w wr ∧ M4 wr w.heap.size m.x m.y m.d m.e ∧ ∀ j, j < i → M.dvd (ldAt o ln f j).m m = false) (fun v _ => n - (intOf v).toNat)
  case atStart => exact ⟨0, Nat.zero_le _, rfl, HB0.out, HM0.out, fun j hj => by omega⟩
  case round =>
    obtain ⟨i, hi, rfl, hB, hM, hJ⟩ := hrel
    have HJ := Hid.mk' hJ
    have HB := Hid.mk' hB
    have HM := Hid.mk' hM
    clear hJ
    by_cases hlt : i < n
    · rcases HH.out.2.2.1 with h0 | ⟨b, off, rfl, hblt, hcl⟩
      · omega
      have hil : (i : Int) < (n : Int) := by omega
      have hbr : b < wr.heap.size := Nat.lt_of_lt_of_le hblt hB.size
      have g0 : wr.cell? ⟨b, off + i, none⟩ = some (.slice (ad i) (ln i) (cp i)) := (hB.cell (p := ⟨b, off + i, none⟩) hblt).trans (hcl i hlt)
      have hS : L5 b (off + i) w.heap.size (.slice (ad i) (ln i) (cp i)) m wr.drew := ⟨g0, hM.1, hM.2.1, hM.2.2.1, hM.2.2.2⟩
      have hoi := HO.out i hlt
      have fl := fl_of_ok hoi.2
      have HK := Hid.mk' ((HH.out.2.2.2 i hlt).below hB)
      obtain ⟨t, ht⟩ : ∃ t, ldAt o ln f i = t := ⟨_, rfl⟩
      have hlead : Calls Tryz.prog 33 #[.int .i64 o, .slice (ad i) (ln i) (cp i)] wr.drew fun r w' => r = .returned (.agg #[.int .i64 t.c, .int .i64 t.m.x, .int .i64 t.m.y, .int .i64 t.m.d, .int .i64 t.m.e]) ∧ Below wr.drew.heap.size wr.drew w' := by
        have := l3LeadS wr.drew o (ad i) (ln i) (cp i) (f i) (HK.out.below (Below.refl _ _).drew) (by omega) (fun j hj => (fl.2 j hj).1)
        rw [show f i (leadAt o (f i) (ln i)) = t from ht] at this
        exact this
      obtain ⟨bv, hbv⟩ : ∃ bv, M.dvd ⟨t.m.x, t.m.y, t.m.d, t.m.e⟩ ⟨m.x, m.y, m.d, m.e⟩ = bv := ⟨_, rfl⟩
      have HT : Hid (M.dvd (ldAt o ln f i).m m = bv) := by
        show M.dvd (ldAt o ln f i).m m = bv
        rw [ht]
        exact hbv
      have hfield : ∀ W : World, (Instr.field 46 (Value.agg #[.int .i64 t.c, .int .i64 t.m.x, .int .i64 t.m.y, .int .i64 t.m.d, .int .i64 t.m.e]) 1).run Tryz.prog W = .ok (Value.agg #[.int .i64 t.m.x, .int .i64 t.m.y, .int .i64 t.m.d, .int .i64 t.m.e]) W := fun W => by kernel_rfl
      have HBD := Hid.mk' hB.drew
      have HMD := Hid.mk' hM.drew'
      clear hcl hB hM g0 hoi fl ht hbr
      go_wp2_with fail
      go_region_held3 (fun u => u.cell? ⟨b, off + i, none⟩ = some (.slice (ad i) (ln i) (cp i)) ∧ u.cell? ⟨w.heap.size, 0, none⟩ = some (.int .i64 m.x) ∧ u.cell? ⟨w.heap.size, 1, none⟩ = some (.int .i64 m.y) ∧ u.cell? ⟨w.heap.size, 2, none⟩ = some (.int .i64 m.d) ∧ u.cell? ⟨w.heap.size, 3, none⟩ = some (.int .i64 m.e)) (first | with_reducible exact hS | with_reducible exact L5.below hS b1 | with_reducible exact L5.below (L5.below hS b1) b2) (first | (go_at_call 33; refine hlead.mono ?_; rintro e w1 ⟨rfl, b1⟩) | (go_at_call 54; refine (monDividesS_of hbv _).mono ?_; rintro e w2 ⟨rfl, b2⟩))
      have HBV := Hid.mk' (bel_next (bel_next HBD.out b1) b2)
      have HMV := Hid.mk' ((HMD.out.below b1).below b2)
      clear hS hlead hbv b1 b2 hfield
      cases bv
      · go_wp2
        go_roundw
        case rel => exact ⟨i + 1, by omega, by go_num, HBV.out, HMV.out, fun j hj => by
          by_cases e : j = i
          · rw [e]; exact HT.out
          · exact HJ.out j (by omega)⟩
        case measure => simp [intOf]; omega
      · go_wp2
        go_ret
        have e : dvK o n ln f m = (i : Int) := idx_hit (p := fun t => M.dvd t.m m) (f := ldAt o ln f) HJ.out HT.out n hlt
        rw [e]
        exact ⟨rfl, HBV.out⟩
    · have hnl : ¬ (i : Int) < (n : Int) := by omega
      have hie : i = n := by omega
      subst hie
      go_wp2
      go_ret
      have e : dvK o i ln f m = -1 := idx_none (p := fun t => M.dvd t.m m) (f := ldAt o ln f) HJ.out
      rw [e]
      exact ⟨rfl, HB.out⟩
/-- operators in a row that may be written. -/
structure QW (w : World) (g n : Nat) (q : Nat → List T) (ad : Nat → Option Addr) (cp : Nat → Nat) : Prop where
  cell : ∀ i, i < n → w.cell? ⟨g, i, none⟩ = some (.slice (ad i) (q i).length (cp i))
  fz : ∀ i, i < n → w.frozen? ⟨g, i, none⟩ = false
  rd : ∀ i, i < n → Rd w (ad i) (q i).length (cp i) (lf (q i))
  ap : ∀ i, i < n → (q i).length = 0 ∨ ∀ b off, ad i = some ⟨b, off, none⟩ → b ≠ g
theorem QW.below {w w' : World} {g n : Nat} {q : Nat → List T} {ad : Nat → Option Addr} {cp : Nat → Nat} (h : QW w g n q ad cp) (hb : Below w.heap.size w w') : QW w' g n q ad cp :=
  ⟨fun i hi => (hb.cell (p := ⟨g, i, none⟩) (World.block_lt_of_cell? w _ (h.cell i hi))).trans (h.cell i hi), fun i hi => (hb.frozen (p := ⟨g, i, none⟩) (World.block_lt_of_cell? w _ (h.cell i hi))).trans (h.fz i hi), fun i hi => (h.rd i hi).below hb, h.ap⟩
theorem setW (w : World) (b i : Nat) (v : Value) : w.grownBy (w.setCell ⟨b, i, none⟩ v) (some b) :=
  ⟨(Below.refl 0 w).setCell (p := ⟨b, i, none⟩) (Nat.zero_le _) v |>.os, (Below.refl 0 w).setCell (p := ⟨b, i, none⟩) (Nat.zero_le _) v |>.tape, (Below.refl 0 w).setCell (p := ⟨b, i, none⟩) (Nat.zero_le _) v |>.output, (Below.refl 0 w).setCell (p := ⟨b, i, none⟩) (Nat.zero_le _) v |>.size, fun k _ hk => Below.heap_setCell _ _ _ k (fun e => hk (by rw [e]))⟩
/-- where a slice does not lie. -/
def Off (a : Option Addr) (k g : Nat) : Prop := k = 0 ∨ ∀ b off, a = some ⟨b, off, none⟩ → b ≠ g
theorem Off.rd {w w' : World} {a : Option Addr} {k cap g : Nat} {f : Nat → T} (h : Off a k g) (hr : Rd w a k cap f) (hg : w.grownBy w' (some g)) : Rd w' a k cap f := hr.grown hg (h.imp id (fun hh b off e e' => hh b off e (by simpa using e')))
theorem QW.put {w : World} {g n : Nat} {q : Nat → List T} {ad : Nat → Option Addr} {cp : Nat → Nat} (h : QW w g n q ad cp) {k : Nat} (hk : k < n) {a : Option Addr} {c : Nat} {L : List T} (hr : Rd w a L.length c (lf L)) (ho : Off a L.length g) :
    QW (w.setCell ⟨g, k, none⟩ (.slice a L.length c)) g n (updQ q k L) (fun i => if i = k then a else ad i) (fun i => if i = k then c else cp i) := by
  have hs := setW w g k (.slice a L.length c)
  refine ⟨fun i hi => ?_, fun i hi => ?_, fun i hi => ?_, fun i hi => ?_⟩
  · unfold updQ
    by_cases e : i = k
    · subst e
      simp only [if_pos]
      simp [go_sem, h.cell i hi]
    · simp only [if_neg e]
      rw [World.cell?_setCell_other _ _ _ _ (by intro e'; cases e'; exact e rfl)]
      exact h.cell i hi
  · simp [go_sem, h.fz i hi]
  · unfold updQ
    by_cases e : i = k
    · subst e
      simp only [if_pos]
      exact ho.rd hr hs
    · simp only [if_neg e]
      exact Off.rd (h.ap i hi) (h.rd i hi) hs
  · unfold updQ
    by_cases e : i = k
    · subst e
      simp only [if_pos]
      exact ho
    · simp only [if_neg e]
      exact h.ap i hi
theorem QW.rds {w : World} {g n c : Nat} {q : Nat → List T} {ad : Nat → Option Addr} {cp : Nat → Nat} (h : QW w g n q ad cp) (hn : n ≤ 12) (hc : n ≤ c) : RdS w (some ⟨g, 0, none⟩) n c ad (fun i => (q i).length) cp (fun i => lf (q i)) := by
  refine ⟨hc, by omega, ?_, h.rd⟩
  by_cases h0 : n = 0
  · exact .inl h0
  · exact .inr ⟨g, 0, rfl, World.block_lt_of_cell? w _ (h.cell 0 (by omega)), fun i hi => by rw [Nat.zero_add]; exact h.cell i hi⟩
theorem AnW.qw {lo : Nat} {w : World} {q : Nat → List T} {n : Nat} {g c : Nat} {ad : Nat → Option Addr} {cp B : Nat → Nat} (h : AnW lo w q n (.slice (some ⟨g, 0, none⟩) n c) ad cp B) : QW w g n q ad cp := by
  refine ⟨fun i hi => ?_, fun i hi => ?_, fun i hi => (h.el i hi).1, fun i hi => ?_⟩
  · rw [h.row.cellAt i (by omega), slL_at hi]
  · rcases h.row.2 with ⟨e, _⟩ | ⟨g', cap, cur, e, _, hg, _⟩
    · cases e
    · cases e
      unfold World.frozen?
      simp [hg]
  · rcases (h.el i hi).2.2 with h0 | ⟨off, e1, _, _, e4⟩
    · exact .inl h0
    · refine .inr fun b off' e e' => ?_
      rw [e1] at e; cases e
      exact e4 (by rw [e']; rfl)
theorem neg_one {t : T} (ht : 1 ≤ t.c ∧ t.c ≤ 100) (L : List T) : addL L [(⟨101 - t.c, t.m⟩ : T)] = subL L [t] := by
  have : scL 100 [t] = [(⟨101 - t.c, t.m⟩ : T)] := by
    rw [scL_map]
    show [(⟨100 * t.c % 101, t.m⟩ : T)] = _
    rw [show 100 * t.c % 101 = 101 - t.c by omega]
  unfold subL
  rw [this]
end Go.Proofs.YtkoaiogakkldgaaGreat
