/-
  The product of two operators as if all commuted: the program.
  Products as if all commuted: no order, no brackets; with a form on the left the product itself.
  Tops: the most that is counted in a term, and the terms in which just so many are: the program.
-/
import Derived.Test.YtlndccbgbclnhaaGreatGaz
import Derived.Test.YtlndccbgbclnhaaGreatGac
import Derived.Deep.RegionHeld3
import Derived.Test.YtlndccbgbclnhaaGreatGap
import Derived.Test.YtlndccbgbclnhaaGreatGah
import Derived.Shelf.Abstract
namespace Go.Proofs.YtlndccbgbclnhaaGreat
open Go.RowKit Go.Maps
set_option linter.unusedVariables false

/-- one product more, as if all commuted; nothing, if it is too much. -/
def comStep (K : List T) (a b : T) : Option (List T) := if (a.m.sum b.m).ok = true then some (putT (a.c * b.c % 101) (a.m.sum b.m) K) else none
def rowC (K : List T) (a : T) (g : Nat → T) : Nat → Option (List T)
  | 0 => some K
  | k + 1 => (rowC K a g k).bind fun K' => comStep K' a (g k)
theorem rowC_none {K : List T} {a : T} {g : Nat → T} {k : Nat} (h : rowC K a g k = none) : ∀ j, k ≤ j → rowC K a g j = none := fun j hj => by
  induction j with
  | zero =>
    have e : k = 0 := by omega
    rw [e] at h
    exact h
  | succ j ih =>
    by_cases e : k = j + 1
    · rw [← e]; exact h
    · rw [rowC, ih (by omega)]; rfl
theorem rowC_len {K : List T} {a : T} {g : Nat → T} : ∀ k K', rowC K a g k = some K' → K'.length ≤ K.length + k
  | 0, K', h => by cases h; exact Nat.le_refl _
  | k + 1, K', h => by
    rw [rowC] at h
    cases hr : rowC K a g k with
    | none => rw [hr] at h; cases h
    | some K1 =>
      rw [hr] at h
      change comStep K1 a (g k) = some K' at h
      have h1 := rowC_len k K1 hr
      unfold comStep at h
      split at h
      · cases h
        have := putT_len (a.c * (g k).c % 101) (a.m.sum (g k).m) K1
        omega
      · cases h
def comMul (f : Nat → T) (la : Nat) (g : Nat → T) (lb : Nat) : List T × Bool := if polOk la f = true ∧ polOk lb g = true then mulO (eachM (fun K t => rowC K t g lb) f la) else ([], false)
theorem comMul_len (f : Nat → T) (la : Nat) (g : Nat → T) (lb : Nat) : (comMul f la g lb).1.length ≤ 400 := by
  unfold comMul
  split
  · cases h : eachM (fun K t => rowC K t g lb) f la with
    | none => simp [mulO]
    | some K => exact eachM_len la K h
  · simp
theorem apartMap {w : World} {b n : Nat} {c : M → Int} (hS : SumR w b n c) {a : Option Addr} {la ca : Nat} {f : Nat → T} (h : Rd w a la ca f) : la = 0 ∨ ∀ b' off, a = some ⟨b', off, none⟩ → some b' ≠ some b := by
  by_cases h0 : la = 0
  · exact .inl h0
  rcases h.2.2 with h1 | ⟨pb, off, rfl, hlt, hc⟩
  · exact .inl h1
  refine .inr (fun b' off' e e' => ?_)
  cases e
  cases e'
  obtain ⟨D, ⟨es, clock, h1, _⟩, _⟩ := hS
  have hk := (hc 0 (by omega)).1
  unfold World.cell? at hk
  simp only [h1] at hk
  cases hk
/-- the cells that the last step reads. -/
abbrev S6 (b1 b2 b3 : Nat) (ca cb : Int) (m : M) (u : World) : Prop := u.cell? ⟨b1, 0, none⟩ = some (.int .i64 ca) ∧ u.cell? ⟨b2, 0, none⟩ = some (.int .i64 cb) ∧ u.cell? ⟨b3, 0, none⟩ = some (.int .i64 m.x) ∧ u.cell? ⟨b3, 1, none⟩ = some (.int .i64 m.y) ∧ u.cell? ⟨b3, 2, none⟩ = some (.int .i64 m.d) ∧ u.cell? ⟨b3, 3, none⟩ = some (.int .i64 m.e)
theorem S6.grown {b1 b2 b3 b : Nat} {ca cb : Int} {m : M} {u u' : World} (h : S6 b1 b2 b3 ca cb m u) (hg : u.grownBy u' (some b)) (n1 : b1 ≠ b) (n2 : b2 ≠ b) (n3 : b3 ≠ b) : S6 b1 b2 b3 ca cb m u' := by
  have k : ∀ (x o : Nat) (v : Value), x ≠ b → u.cell? ⟨x, o, none⟩ = some v → u'.cell? ⟨x, o, none⟩ = some v := fun x o v hx hv =>
    (World.cell?_of_block (w := u) (a := ⟨x, o, none⟩) (hg.block x (World.block_lt_of_cell? u ⟨x, o, none⟩ hv) (fun e => hx (by cases e; rfl)))).trans hv
  exact ⟨k _ _ _ n1 h.1, k _ _ _ n2 h.2.1, k _ _ _ n3 h.2.2.1, k _ _ _ n3 h.2.2.2.1, k _ _ _ n3 h.2.2.2.2.1, k _ _ _ n3 h.2.2.2.2.2⟩
set_option maxRecDepth 100000 in
set_option maxHeartbeats 8000000 in
theorem addComI (w : World) (bm : Nat) (c : M → Int) (K : List T) (hS : SumR w bm 65536 c) (hK : Falls K) (hKc : ∀ m, m.ok = true → coef K m = c m) (a : T) (ha : a.m.ok = true ∧ 1 ≤ a.c ∧ a.c ≤ 100) (p : Option Addr) (lb cb : Nat) (g : Nat → T) (hr : Rd w p lb cb g) (hp : polOk lb g = true) :
    Calls Tryz.prog 25 #[.map (some bm), .agg #[.int .i64 a.c, .int .i64 a.m.x, .int .i64 a.m.y, .int .i64 a.m.d, .int .i64 a.m.e], .slice p lb cb] w fun e w' => w.grownBy w' (some bm) ∧
      ((∃ K' c', rowC K a g lb = some K' ∧ e = .returned (.bool true) ∧ SumR w' bm 65536 c' ∧ Falls K' ∧ ∀ m, m.ok = true → coef K' m = c' m) ∨ (rowC K a g lb = none ∧ e = .returned (.bool false))) := by
  have hblt := hS.lt
  have HR := Hid.mk' hr
  have HAP := Hid.mk' (apartMap hS hr)
  have hlb : (lb : Int) ≤ 140737488351232 := by have := hr.2.1; omega
  have HP := Hid.mk' hp
  have HS0 := Hid.mk' (hS.grown (World.grownBy_alloc w (.cells #[.int .i64 a.c, .int .i64 a.m.x, .int .i64 a.m.y, .int .i64 a.m.d, .int .i64 a.m.e] 44) none) (by simp))
  have HG0 := Hid.mk' (World.grownBy_alloc w (.cells #[.int .i64 a.c, .int .i64 a.m.x, .int .i64 a.m.y, .int .i64 a.m.d, .int .i64 a.m.e] 44) (some bm))
  have HT0 : Hid (TermAt (w.alloc (.cells #[.int .i64 a.c, .int .i64 a.m.x, .int .i64 a.m.y, .int .i64 a.m.d, .int .i64 a.m.e] 44)) w.heap.size a) := World.alloc_heap_new w _
  clear hS hr hp
  go_enter Tryz.func25, Tryz.ntmps25
  go_wp2
  generalize w.alloc (.cells #[.int .i64 a.c, .int .i64 a.m.x, .int .i64 a.m.y, .int .i64 a.m.d, .int .i64 a.m.e] 44) = w0 at *
  go_loopw [13] (fun v wr => ∃ (k : Nat) (K' : List T) (c' : M → Int), k ≤ lb ∧ v = .int .i64 (k : Int) ∧ rowC K a g k = some K' ∧ Falls K' ∧ (∀ m, m.ok = true → coef K' m = c' m) ∧ SumR wr bm 65536 c' ∧ w.grownBy wr (some bm) ∧ TermAt wr w.heap.size a) (fun v _ => lb - (intOf v).toNat)
  case atStart => exact ⟨0, K, c, Nat.zero_le _, rfl, rfl, hK, hKc, HS0.out, HG0.out, HT0.out⟩
  case round =>
    obtain ⟨k, K', c', hk, rfl, hM, hKf, hKc', hS, hg, hT⟩ := hrel
    by_cases hlt : k < lb
    · have hkl : (k : Int) < (lb : Int) := by omega
      have hri := HR.out.grown hg HAP.out
      rcases hri.2.2 with h0 | ⟨pb, off, hpe, hpl, hcl⟩
      · omega
      obtain ⟨g0, g1, g2, g3, g4⟩ := hcl k hlt
      have hgk := (fl_of_ok HP.out).2 k hlt
      have hTlt : w.heap.size < wr.heap.size := (Array.getElem?_eq_some_iff.1 hT).1
      have hTk : TermAt (wr.alloc (.cells #[.int .i64 (g k).c, .int .i64 (g k).m.x, .int .i64 (g k).m.y, .int .i64 (g k).m.d, .int .i64 (g k).m.e] 44)) w.heap.size a := (Below.heap_alloc wr _ _ hTlt).trans hT
      have hXk : TermAt (wr.alloc (.cells #[.int .i64 (g k).c, .int .i64 (g k).m.x, .int .i64 (g k).m.y, .int .i64 (g k).m.d, .int .i64 (g k).m.e] 44)) wr.heap.size (g k) := World.alloc_heap_new wr _
      obtain ⟨a0, a1, a2, a3, a4⟩ := hTk.cells
      have HG1 := Hid.mk' (hg.trans (World.grownBy_alloc wr (.cells #[.int .i64 (g k).c, .int .i64 (g k).m.x, .int .i64 (g k).m.y, .int .i64 (g k).m.d, .int .i64 (g k).m.e] 44) (some bm)))
      have HS1 := Hid.mk' (hS.grown (World.grownBy_alloc wr (.cells #[.int .i64 (g k).c, .int .i64 (g k).m.x, .int .i64 (g k).m.y, .int .i64 (g k).m.d, .int .i64 (g k).m.e] 44) none) (by simp))
      have HTA := Hid.mk' hTk
      have HXA := Hid.mk' hXk
      have HM := Hid.mk' hM
      have hmm := monMulI a.m.x a.m.y a.m.d a.m.e (g k).m.x (g k).m.y (g k).m.d (g k).m.e
      have ea : (⟨a.m.x, a.m.y, a.m.d, a.m.e⟩ : M) = a.m := rfl
      have eb : (⟨(g k).m.x, (g k).m.y, (g k).m.d, (g k).m.e⟩ : M) = (g k).m := rfl
      rw [ea, eb] at hmm
      have hbw : bm < wr.heap.size := hS.lt
      have hne1 : w.heap.size ≠ bm := by omega
      have hne2 : wr.heap.size ≠ bm := by omega
      have hcr := hS.range
      subst hpe
      clear hcl hri hg hS hM hT hTk hXk ea eb
      by_cases hok : (a.m.sum (g k).m).ok = true
      · have hmul : M.mul a.m (g k).m = (a.m.sum (g k).m, true) := by simp [M.mul, ha.1, hgk.1, hok]
        rw [hmul] at hmm
        have hst : rowC K a g (k + 1) = some (putT (a.c * (g k).c % 101) (a.m.sum (g k).m) K') := by rw [rowC, HM.out]; show comStep _ _ _ = _; unfold comStep; rw [if_pos hok]
        have HST := Hid.mk' hst
        have hput := putT_facts (c := a.c * (g k).c % 101) hKf hok (by omega) (by omega)
        have hv1 : 0 ≤ a.c * (g k).c % 101 := by omega
        have hv2 : a.c * (g k).c % 101 ≤ 100 := by omega
        clear hmul hst
        generalize hsum : a.m.sum (g k).m = q at *
        go_wp2_with (go_at_call 36; refine (hmm _).mono ?_; rintro e w4 ⟨rfl, hb4⟩; have HB4 := Hid.mk' hb4; have kA : TermAt w4 w.heap.size a := (hb4.block _ (by simp; omega)).trans HTA.out; have kX : TermAt w4 wr.heap.size (g k) := (hb4.block _ (by simp)).trans HXA.out; have hs4 := hb4.size; simp only [World.size_alloc] at hs4; obtain ⟨x0, x1, x2, x3, x4⟩ := kA.cells; obtain ⟨y0, y1, y2, y3, y4⟩ := kX.cells; have HKA := Hid.mk' kA; clear hb4 kA kX)
        obtain ⟨m0, m1, m2, m3⟩ := M4.box w4 39 q.x q.y q.d q.e
        have hB5 := bel_one w4 (.cells #[.int .i64 q.x, .int .i64 q.y, .int .i64 q.d, .int .i64 q.e] 39)
        have z1 := (hB5.cell (p := ⟨w.heap.size, 0, none⟩) (show w.heap.size < w4.heap.size by omega)).trans x0
        have z2 := (hB5.cell (p := ⟨wr.heap.size, 0, none⟩) (show wr.heap.size < w4.heap.size by omega)).trans y0
        have hS0 : S6 w.heap.size wr.heap.size w4.heap.size a.c (g k).c q (w4.alloc (.cells #[.int .i64 q.x, .int .i64 q.y, .int .i64 q.d, .int .i64 q.e] 39)).drew := ⟨z1, z2, m0, m1, m2, m3⟩
        have HG5 : Hid ((wr.alloc (.cells #[.int .i64 (g k).c, .int .i64 (g k).m.x, .int .i64 (g k).m.y, .int .i64 (g k).m.d, .int .i64 (g k).m.e] 44)).grownBy (w4.alloc (.cells #[.int .i64 q.x, .int .i64 q.y, .int .i64 q.d, .int .i64 q.e] 39)).drew none) := grown_of_below (bel_next HB4.out hB5.drew)
        have HS5 := Hid.mk' (HS1.out.grown HG5.out (by simp))
        have HKA5 : Hid (TermAt (w4.alloc (.cells #[.int .i64 q.x, .int .i64 q.y, .int .i64 q.d, .int .i64 q.e] 39)).drew w.heap.size a) := (Below.heap_alloc w4 _ _ (show w.heap.size < w4.heap.size by omega)).trans HKA.out
        have hne3 : w4.heap.size ≠ bm := by omega
        have HG6 := Hid.mk' (HG1.out.trans (⟨HG5.out.os, HG5.out.tape, HG5.out.output, HG5.out.size, fun j hj _ => HG5.out.block j hj (by simp)⟩ : (wr.alloc (.cells #[.int .i64 (g k).c, .int .i64 (g k).m.x, .int .i64 (g k).m.y, .int .i64 (g k).m.d, .int .i64 (g k).m.e] 44)).grownBy (w4.alloc (.cells #[.int .i64 q.x, .int .i64 q.y, .int .i64 q.d, .int .i64 q.e] 39)).drew (some bm)))
        clear x0 x1 x2 x3 x4 y0 y1 y2 y3 y4 z1 z2 m0 m1 m2 m3 a0 a1 a2 a3 a4 g0 g1 g2 g3 g4 hmm hB5 HG5
        go_region_held3 (fun u => u.cell? ⟨w.heap.size, 0, none⟩ = some (.int .i64 a.c) ∧ u.cell? ⟨wr.heap.size, 0, none⟩ = some (.int .i64 (g k).c) ∧ u.cell? ⟨w4.heap.size, 0, none⟩ = some (.int .i64 q.x) ∧ u.cell? ⟨w4.heap.size, 1, none⟩ = some (.int .i64 q.y) ∧ u.cell? ⟨w4.heap.size, 2, none⟩ = some (.int .i64 q.d) ∧ u.cell? ⟨w4.heap.size, 3, none⟩ = some (.int .i64 q.e)) (first | with_reducible exact hS0 | with_reducible exact S6.grown hS0 hg7 hne1 hne2 hne3) (first | (go_at_call 45; refine (times _ _ _ (by omega) ha.2.2 (by omega) hgk.2.2).mono ?_; rintro e w6 ⟨rfl, hw6⟩; obtain rfl := hw6.symm; clear hw6) | (go_at_call 44; refine (sumAddR bm 65536 c' _ q _ hok HS5.out (by unfold maxLen; omega) hv1 hv2).mono ?_; rintro e w7 ⟨rfl, hs7, hg7⟩))
        all_goals
          have HS7 := Hid.mk' hs7.cap
          have HG7 := Hid.mk' (HG6.out.trans hg7)
          have HT7 : Hid (TermAt w7 w.heap.size a) := (hg7.block _ (by have := (Array.getElem?_eq_some_iff.1 HKA5.out).1; exact this) (fun e => hne1 (by cases e; rfl))).trans HKA5.out
          clear hs7 hg7
          go_wp2
          go_roundw
          case rel =>
            refine ⟨k + 1, _, _, by omega, by go_num, HST.out, hput.1, fun m hmo => ?_, HS7.out, HG7.out, HT7.out⟩
            rw [hput.2]
            unfold updC
            split
            · rw [hKc' _ hok]
            · exact hKc' m hmo
          case measure => simp [intOf]; omega
      · have hmul : M.mul a.m (g k).m = (M.zero, false) := by simp [M.mul, hok]
        rw [hmul] at hmm
        have hno : rowC K a g lb = none := rowC_none (k := k + 1) (by rw [rowC, HM.out]; show comStep _ _ _ = _; unfold comStep; rw [if_neg hok]) lb (by omega)
        clear hmul
        go_wp2_with (go_at_call 36; refine (hmm _).mono ?_; rintro e w4 ⟨rfl, hb4⟩; have HB4 := Hid.mk' hb4; clear hb4)
        go_ret
        have hb5 := bel_next HB4.out (bel_one w4 (.cells #[.int .i64 M.zero.x, .int .i64 M.zero.y, .int .i64 M.zero.d, .int .i64 M.zero.e] 39))
        exact ⟨HG1.out.trans (⟨hb5.os, hb5.tape, hb5.output, hb5.size, fun j hj _ => hb5.block j hj⟩), .inr ⟨hno, rfl⟩⟩
    · obtain rfl : k = lb := by omega
      have HM := Hid.mk' hM
      have HSk := Hid.mk' hS
      have HGk := Hid.mk' hg
      clear hS hg hM hT
      go_wp2
      go_ret
      exact ⟨HGk.out, .inl ⟨K', c', HM.out, rfl, HSk.out, hKf, hKc'⟩⟩
set_option maxRecDepth 100000 in
set_option maxHeartbeats 4000000 in
theorem comTurns (SB : Nat) (p : Option Addr) (lb cb : Nat) (g : Nat → T) (hp : polOk lb g = true) :
    Turns 24 #[.pointer (some ⟨SB, 0, none⟩)] (fun K t => rowC K t g lb) (fun W => W.cell? ⟨SB, 0, none⟩ = some (.slice p lb cb) ∧ Rd W p lb cb g) := by
  intro W bm c K a hS hK hKc hl ha hq
  have hB0 := bel_one W (.cells #[.int .i64 a.c, .int .i64 a.m.x, .int .i64 a.m.y, .int .i64 a.m.d, .int .i64 a.m.e] 44)
  have q0 : (W.alloc (.cells #[.int .i64 a.c, .int .i64 a.m.x, .int .i64 a.m.y, .int .i64 a.m.d, .int .i64 a.m.e] 44)).cell? ⟨SB, 0, none⟩ = some (.slice p lb cb) := (hB0.cell (p := ⟨SB, 0, none⟩) (World.block_lt_of_cell? W ⟨SB, 0, none⟩ hq.1)).trans hq.1
  have hcall := addComI (W.alloc (.cells #[.int .i64 a.c, .int .i64 a.m.x, .int .i64 a.m.y, .int .i64 a.m.d, .int .i64 a.m.e] 44)) bm c K (hS.grown (World.grownBy_alloc W (.cells #[.int .i64 a.c, .int .i64 a.m.x, .int .i64 a.m.y, .int .i64 a.m.d, .int .i64 a.m.e] 44) none) (by simp)) hK hKc a ha p lb cb g (hq.2.below hB0) hp
  have HG0 := Hid.mk' (World.grownBy_alloc W (.cells #[.int .i64 a.c, .int .i64 a.m.x, .int .i64 a.m.y, .int .i64 a.m.d, .int .i64 a.m.e] 44) (some bm))
  clear hS hq
  show Calls Tryz.prog 24 #[.map (some bm), .agg #[.int .i64 a.c, .int .i64 a.m.x, .int .i64 a.m.y, .int .i64 a.m.d, .int .i64 a.m.e], .pointer (some ⟨SB, 0, none⟩)] W _
  go_enter Tryz.func24, Tryz.ntmps24
  go_wp2_with fail
  refine hcall.mono ?_
  rintro r w2 ⟨hg2, (⟨K', c', h1, rfl, h3, h4, h5⟩ | ⟨h1, rfl⟩)⟩
  · go_wp2
    go_ret
    exact ⟨HG0.out.trans hg2, .inl ⟨K', c', h1, rfl, h3, h4, h5⟩⟩
  · go_wp2
    go_ret
    exact ⟨HG0.out.trans hg2, .inr ⟨h1, rfl⟩⟩
theorem comQ {w w1 : World} {b : Option Addr} {lb cb : Nat} {g : Nat → T} (hR : Rd w b lb cb g) (hl : w.heap.size + 1 ≤ w1.heap.size) : ∀ (W W' : World) (bm : Nat), (W.cell? ⟨w.heap.size, 0, none⟩ = some (.slice b lb cb) ∧ Rd W b lb cb g) → w1.heap.size ≤ bm → W.grownBy W' (some bm) → (W'.cell? ⟨w.heap.size, 0, none⟩ = some (.slice b lb cb) ∧ Rd W' b lb cb g) := fun W W' bm hq hlo hg => by
  have n1 : w.heap.size ≠ bm := by omega
  refine ⟨(World.cell?_of_block (w := W) (a := ⟨w.heap.size, 0, none⟩) (hg.block _ (World.block_lt_of_cell? W ⟨w.heap.size, 0, none⟩ hq.1) (fun e => n1 (by cases e; rfl)))).trans hq.1, hq.2.grown hg ?_⟩
  rcases hR.2.2 with h0 | ⟨b3, o3, h1, h2, _⟩
  · exact .inl h0
  · refine .inr (fun b' off' e1 e2 => ?_)
    rw [h1] at e1
    cases e1
    cases e2
    omega
set_option maxRecDepth 100000 in
set_option maxHeartbeats 4000000 in
theorem comMulI (w : World) (a b : Option Addr) (la ca lb cb : Nat) (f g : Nat → T) (ha : Rd w a la ca f) (hb : Rd w b lb cb g) :
    Calls Tryz.prog 9 #[.slice a la ca, .slice b lb cb] w fun r w' => ∃ a' cap', r = .returned (.tuple #[.slice a' (comMul f la g lb).1.length cap', .bool (comMul f la g lb).2]) ∧ Below w.heap.size w w' ∧ Out w.heap.size w' a' cap' (comMul f la g lb).1 := by
  have HA := Hid.mk' ha
  have HB := Hid.mk' hb
  have hlen := comMul_len f la g lb
  have hbx := bel_one w (.cells #[.slice b lb cb] 23)
  have q0 : (w.alloc (.cells #[.slice b lb cb] 23)).cell? ⟨w.heap.size, 0, none⟩ = some (.slice b lb cb) := by rw [World.cell?_alloc_at _ _ _ _ rfl]; rfl
  clear ha hb
  cases hpb : polOk lb g
  · have e1 : comMul f la g lb = ([], false) := by simp [comMul, hpb]
    rw [e1]
    go_enter Tryz.func9, Tryz.ntmps9
    go_wp2_with (go_at_call 17; refine (polOkI _ _ _ _ g (HB.out.below hbx)).mono ?_; rw [hpb]; rintro r w1 ⟨rfl, hb1⟩; have HB1 := Hid.mk' (bel_next hbx hb1); clear hb1)
    refine bodyPost_ret (results_tmp2 rfl _ _ _) rfl ?_
    obtain ⟨a', cap', h1, hout⟩ := out_of_owns (L := []) (owns_nil w1 w.heap.size) (by simp)
    cases h1
    exact ⟨_, _, rfl, HB1.out, hout⟩
  · have e1 : comMul f la g lb = mapV (fun K t => rowC K t g lb) f la := by
      unfold comMul mapV
      by_cases hpa : polOk la f = true
      · rw [if_pos ⟨hpa, hpb⟩, if_pos hpa]
      · rw [if_neg (fun h => hpa h.1), if_neg hpa]
    rw [e1] at hlen ⊢
    clear e1
    go_enter Tryz.func9, Tryz.ntmps9
    go_wp2_with (first
      | (go_at_call 17; refine (polOkI _ _ _ _ g (HB.out.below hbx)).mono ?_; rw [hpb]; rintro r w1 ⟨rfl, hb1⟩; have hl1 : w.heap.size + 1 ≤ w1.heap.size := (by have := hb1.size; simpa using this); have q1 := (hb1.cell (p := ⟨w.heap.size, 0, none⟩) (by simp)).trans q0; have HB1 := Hid.mk' (bel_next hbx hb1); clear hb1)
      | (go_at_call 23; refine (mapEachV w1 a la ca f 24 #[.pointer (some ⟨w.heap.size, 0, none⟩)] (fun K t => rowC K t g lb) _ (enters_of Tryz.func24 (by kernel_rfl) rfl) (comTurns w.heap.size b lb cb g hpb) (comQ HB.out hl1) (fun W' hq hb => ⟨(hb.cell (p := ⟨w.heap.size, 0, none⟩) (show w.heap.size < w1.heap.size from hl1)).trans hq.1, hq.2.below hb⟩) ⟨q1, HB.out.below HB1.out⟩ (HA.out.below HB1.out)).mono ?_; rintro r w2 ⟨v2, rfl, hb2, ho2⟩))
    refine bodyPost_ret (results_tmp2 rfl _ _ _) rfl ?_
    obtain ⟨a', cap', rfl, hout⟩ := out_of_owns (owns_lower ho2 HB1.out.size) (by omega)
    exact ⟨a', cap', rfl, bel_next HB1.out hb2, hout⟩
end Go.Proofs.YtlndccbgbclnhaaGreat
namespace Go.Proofs.YtlndccbgbclnhaaGreat
open Go.RowKit
set_option linter.unusedVariables false

def cmV (L K : List T) : List T × Bool := comMul (lf L) L.length (lf K) K.length
theorem cmV_if (L K : List T) : cmV L K = ([], false) ∨ ∃ X, cmV L K = (X, true) := by
  unfold cmV comMul
  split
  · cases eachM (fun K' t => rowC K' t (lf K) K.length) (lf L) L.length with
    | none => exact .inl rfl
    | some X => exact .inr ⟨X, rfl⟩
  · exact .inl rfl
theorem rowC_lin (φ : M → Fq) {K : List T} {a : T} {f : Nat → T} {lb : Nat} (hK : Falls K) (ha : a.m.ok = true ∧ 1 ≤ a.c ∧ a.c ≤ 100) (hg : ∀ i, i < lb → (f i).m.ok = true ∧ 1 ≤ (f i).c ∧ (f i).c ≤ 100) : ∀ k K', k ≤ lb → rowC K a f k = some K' → Falls K' ∧ (lin φ K' = lin φ K + su (List.range k) (fun j => zz a.c * zz (f j).c * φ (a.m.sum (f j).m))) ∧ ∀ j, j < k → (a.m.sum (f j).m).ok = true
  | 0, K', _, h => by
    cases h
    exact ⟨hK, by show _ = lin φ K + 0; grind, fun j hj => by omega⟩
  | k + 1, K', hk, h => by
    rw [rowC] at h
    cases hr : rowC K a f k with
    | none => rw [hr] at h; cases h
    | some K1 =>
      rw [hr] at h
      change comStep K1 a (f k) = some K' at h
      have h1 := rowC_lin φ hK ha hg k K1 (by omega) hr
      unfold comStep at h
      split at h
      · rename_i hok
        cases h
        have h2 := hg k (by omega)
        have c0 : 0 ≤ a.c * (f k).c % 101 := by omega
        have c1 : a.c * (f k).c % 101 ≤ 100 := by omega
        refine ⟨(putT_facts h1.1 hok c0 c1).1, ?_, fun j hj => ?_⟩
        · rw [lin_put φ h1.1 hok c0 c1, h1.2.1, List.range_succ, su_append, zz_mod, zz_mul]
          show _ = _ + (_ + (_ + 0))
          grind
        · by_cases e : j = k
          · rw [e]; exact hok
          · exact h1.2.2 j (by omega)
      · cases h
theorem eachC_lin (φ : M → Fq) {f f' : Nat → T} {la lb : Nat} (hf : ∀ i, i < la → (f i).m.ok = true ∧ 1 ≤ (f i).c ∧ (f i).c ≤ 100) (hg : ∀ i, i < lb → (f' i).m.ok = true ∧ 1 ≤ (f' i).c ∧ (f' i).c ≤ 100) : ∀ i K, i ≤ la → eachM (fun K t => rowC K t f' lb) f i = some K → Falls K ∧ (lin φ K = su (List.range i) (fun k => su (List.range lb) (fun j => zz (f k).c * zz (f' j).c * φ ((f k).m.sum (f' j).m)))) ∧ ∀ k, k < i → ∀ j, j < lb → ((f k).m.sum (f' j).m).ok = true
  | 0, K, _, h => by cases h; exact ⟨falls_nil, rfl, fun k hk => by omega⟩
  | i + 1, K, hi, h => by
    rw [eachM] at h
    cases hr : eachM (fun K t => rowC K t f' lb) f i with
    | none => rw [hr] at h; cases h
    | some K1 =>
      rw [hr] at h
      change (rowC K1 (f i) f' lb).bind lim4 = some K at h
      cases hs : rowC K1 (f i) f' lb with
      | none => rw [hs] at h; cases h
      | some K2 =>
        rw [hs] at h
        change lim4 K2 = some K at h
        unfold lim4 at h
        split at h
        · cases h
          have h1 := eachC_lin φ hf hg i K1 (by omega) hr
          have h2 := rowC_lin φ h1.1 (hf i (by omega)) hg lb K (Nat.le_refl _) hs
          refine ⟨h2.1, ?_, fun k hk j hj => ?_⟩
          · rw [h2.2.1, h1.2.1, List.range_succ, su_append]
            show _ = _ + (_ + 0)
            grind
          · by_cases e : k = i
            · rw [e]; exact h2.2.2 j hj
            · exact h1.2.2 k (by omega) j hj
        · cases h
theorem cm_facts {A B X : List T} (h : cmV A B = (X, true)) : okL A = true ∧ okL B = true ∧ okL X = true ∧ (∀ φ, lin φ X = su A (fun a => su B (fun b => zz a.c * zz b.c * φ (a.m.sum b.m)))) ∧ ∀ a ∈ A, ∀ b ∈ B, (a.m.sum b.m).ok = true := by
  unfold cmV comMul at h
  split at h
  · rename_i hok
    have f1 := fl_of_ok hok.1
    have f2 := fl_of_ok hok.2
    cases hm : eachM (fun K t => rowC K t (lf B) B.length) (lf A) A.length with
    | none => rw [hm] at h; simp [mulO] at h
    | some K =>
      rw [hm] at h
      have e : K = X := by simpa [mulO] using h
      have key := fun φ => eachC_lin φ f1.2 f2.2 A.length K (Nat.le_refl _) hm
      refine ⟨hok.1, hok.2, by rw [← e]; exact okL_of (eachM_len _ K hm) (key (fun _ => 0)).1, fun φ => ?_, fun a ha b hb => ?_⟩
      · rw [← e, (key φ).2.1, su_lf2 A]
        refine su_congr (fun i _ => ?_)
        rw [su_lf2 B]
      · obtain ⟨i, hi, rfl⟩ := List.mem_iff_getElem.1 ha
        obtain ⟨j, hj, rfl⟩ := List.mem_iff_getElem.1 hb
        have := (key (fun _ => 0)).2.2 i hi j hj
        rwa [lf_eq hi, lf_eq hj] at this
  · simp at h
/-- lists that nothing tells apart are the same. -/
theorem eq_of_lin {P Q : List T} (hP : okL P = true) (hQ : okL Q = true) (h : ∀ φ, lin φ P = lin φ Q) : P = Q :=
  falls_one (okL_falls hP).2 (okL_falls hQ).2 (fun m hm => zz_inj (coef_range (okL_falls hP).2 m) (coef_range (okL_falls hQ).2 m) (by rw [← lin_dl (okL_falls hP).2 hm, ← lin_dl (okL_falls hQ).2 hm, h]))
theorem sum_comm' (a b : M) : a.sum b = b.sum a := by
  unfold M.sum
  rw [Int.add_comm a.x, Int.add_comm a.y, Int.add_comm a.d, Int.add_comm a.e]
theorem sum_assoc' (a b c : M) : (a.sum b).sum c = a.sum (b.sum c) := by
  unfold M.sum
  simp only [Int.add_assoc]
theorem rowC_some {K : List T} {a : T} {f : Nat → T} : ∀ k, (∀ j, j < k → (a.m.sum (f j).m).ok = true) → ∃ K', rowC K a f k = some K' ∧ K'.length ≤ K.length + k
  | 0, _ => ⟨K, rfl, Nat.le_refl _⟩
  | k + 1, h => by
    obtain ⟨K1, h1, h2⟩ := rowC_some (K := K) (a := a) (f := f) k (fun j hj => h j (by omega))
    refine ⟨putT (a.c * (f k).c % 101) (a.m.sum (f k).m) K1, ?_, ?_⟩
    · rw [rowC, h1]
      show comStep K1 a (f k) = _
      unfold comStep
      rw [if_pos (h k (by omega))]
    · have := putT_len (a.c * (f k).c % 101) (a.m.sum (f k).m) K1
      omega
theorem eachC_some {f f' : Nat → T} {la lb : Nat} (hl : la * lb ≤ 400) (h : ∀ k, k < la → ∀ j, j < lb → ((f k).m.sum (f' j).m).ok = true) : ∀ i, i ≤ la → ∃ K, eachM (fun K t => rowC K t f' lb) f i = some K ∧ K.length ≤ i * lb
  | 0, _ => ⟨[], rfl, by simp⟩
  | i + 1, hi => by
    obtain ⟨K1, h1, h2⟩ := eachC_some hl h i (by omega)
    obtain ⟨K2, h3, h4⟩ := rowC_some (K := K1) (a := f i) (f := f') lb (fun j hj => h i (by omega) j hj)
    have hb : (i + 1) * lb ≤ la * lb := Nat.mul_le_mul_right _ hi
    have hc : (i + 1) * lb = i * lb + lb := Nat.succ_mul i lb
    refine ⟨K2, ?_, by omega⟩
    rw [eachM, h1]
    show (rowC K1 (f i) f' lb).bind lim4 = _
    rw [h3]
    show lim4 K2 = _
    unfold lim4
    rw [if_pos (by omega)]
theorem cm_of {A B : List T} (oA : okL A = true) (oB : okL B = true) (h : ∀ a ∈ A, ∀ b ∈ B, (a.m.sum b.m).ok = true) (hl : A.length * B.length ≤ 400) : ∃ X, cmV A B = (X, true) := by
  have h1 : polOk A.length (lf A) = true := oA
  have h2 : polOk B.length (lf B) = true := oB
  obtain ⟨K, hK, _⟩ := eachC_some (f := lf A) (f' := lf B) hl (fun k hk j hj => by rw [lf_eq hk, lf_eq hj]; exact h _ (List.getElem_mem hk) _ (List.getElem_mem hj)) A.length (Nat.le_refl _)
  refine ⟨K, ?_⟩
  unfold cmV comMul
  rw [if_pos ⟨h1, h2⟩, hK]; rfl
theorem cm_comm {A B X : List T} (h : cmV A B = (X, true)) (hl : B.length * A.length ≤ 400) : cmV B A = (X, true) := by
  obtain ⟨oA, oB, oX, eX, hs⟩ := cm_facts h
  obtain ⟨Y, hY⟩ := cm_of oB oA (fun b hb a ha => by rw [sum_comm']; exact hs a ha b hb) hl
  obtain ⟨_, _, oY, eY, _⟩ := cm_facts hY
  have e : Y = X := eq_of_lin oY oX (fun φ => by
    rw [eX, eY, su_swap]
    refine su_congr (fun a _ => su_congr (fun b _ => ?_))
    rw [sum_comm' b.m]
    grind)
  rw [hY, e]
theorem cm_lin2 {A B X : List T} (h : cmV A B = (X, true)) (φ : M → Fq) : lin φ X = lin (fun m => lin (fun m' => φ (m.sum m')) B) A := by
  rw [(cm_facts h).2.2.2.1]
  refine su_congr (fun a _ => ?_)
  show _ = zz a.c * su B (fun b => zz b.c * φ (a.m.sum b.m))
  rw [← su_mul]
  exact su_congr (fun b _ => by grind)
theorem cm_assoc {A B C X BC U V : List T} (h1 : cmV A B = (X, true)) (h2 : cmV B C = (BC, true)) (h3 : cmV X C = (U, true)) (h4 : cmV A BC = (V, true)) : U = V := by
  refine eq_of_lin (cm_facts h3).2.2.1 (cm_facts h4).2.2.1 (fun φ => ?_)
  rw [cm_lin2 h3, cm_lin2 h1, cm_lin2 h4]
  refine su_congr (fun a _ => ?_)
  congr 1
  show lin (fun m' => lin (fun m'' => φ ((a.m.sum m').sum m'')) C) B = lin (fun m' => φ (a.m.sum m')) BC
  rw [cm_lin2 h2]
  refine su_congr (fun b _ => ?_)
  congr 1
  refine su_congr (fun c _ => ?_)
  show _ = zz c.c * φ (a.m.sum (b.m.sum c.m))
  rw [← sum_assoc']
/-- with a form on the left the product is the one as if all commuted. -/
theorem cm_form {A B X P : List T} (fB : freeL B = true) (h : cmV A B = (X, true)) (h2 : wmV B A = (P, true)) : X = P := by
  refine eq_of_lin (cm_facts h).2.2.1 (wm_ok h2) (fun φ => ?_)
  have fr : ∀ b ∈ B, b.m.d = 0 ∧ b.m.e = 0 := fun b hb => by
    have hf := fB
    unfold freeL polFree at hf
    rw [Bool.and_eq_true, decide_eq_true_eq] at hf
    obtain ⟨i, hi, rfl⟩ := List.mem_iff_getElem.1 hb
    have h3 := hf.2 i hi
    have h4 := M.ok_iff.1 ((okL_falls hf.1).2.2 _ hb).1
    rw [lf_eq hi] at h3
    omega
  rw [(cm_facts h).2.2.2.1, (wm_lin h2).1, su_swap]
  refine su_congr (fun b hb => su_congr (fun a ha => ?_))
  have tw := two_of h2 hb ha
  obtain ⟨ax0, ax1, ay0, ay1, ad0, ad1, ae0, ae1⟩ := M.ok_iff.1 tw.ok1
  obtain ⟨bx0, bx1, by0, by1, bd0, bd1, be0, be1⟩ := M.ok_iff.1 tw.ok2
  obtain ⟨hd, he⟩ := fr b hb
  have lx : limX b a = 0 := by unfold limX; omega
  have ly : limY b a = 0 := by unfold limY; omega
  rw [pair_lin φ tw, lx, ly]
  show _ = (zz (termN b a 0 0).c * φ (termN b a 0 0).m + 0) + 0
  have e : (termN b a 0 0).m = b.m.sum a.m := by
    show (⟨b.m.x + a.m.x - ((0 : Nat) : Int), b.m.y + a.m.y - ((0 : Nat) : Int), b.m.d + a.m.d - ((0 : Nat) : Int), b.m.e + a.m.e - ((0 : Nat) : Int)⟩ : M) = ⟨b.m.x + a.m.x, b.m.y + a.m.y, b.m.d + a.m.d, b.m.e + a.m.e⟩
    simp
  have ec : zz (termN b a 0 0).c = zz b.c * zz a.c := by
    show zz (b.c * a.c % 101 * wy b.m.d a.m.x ((0 : Nat) : Int) % 101 * wy b.m.e a.m.y ((0 : Nat) : Int) % 101) = _
    have e0 : ((0 : Nat) : Int) = 0 := rfl
    rw [e0, zz_mod, zz_mul, zz_mod, zz_mul, zz_mod, zz_mul, wy_zero ad0 ad1 bx0 bx1, wy_zero ae0 ae1 by0 by1]
    grind
  rw [e, ec, sum_comm' a.m]
  grind
section
variable {w : World} {a b : Option Addr} {ca cb : Nat} {L K : List T}
theorem cmI_L (ha : RL w a ca L) (hb : RL w b cb K) : Calls Tryz.prog 9 #[.slice a L.length ca, .slice b K.length cb] w (Two2 w (cmV L K)) :=
  (comMulI w a b L.length ca K.length cb (lf L) (lf K) ha hb).mono fun _ _ h => two_out h
end
end Go.Proofs.YtlndccbgbclnhaaGreat
namespace Go.Proofs.YtlndccbgbclnhaaGreat
open Go.RowKit
set_option linter.unusedVariables false

def slp (m : M) : Int := m.d + m.e
def dgr (m : M) : Int := m.x + m.y + m.d + m.e
/-- the most that is counted in the first terms; -1 of none. -/
def mostL (q : M → Int) (f : Nat → T) : Nat → Int
  | 0 => -1
  | i + 1 => if mostL q f i < q (f i).m then q (f i).m else mostL q f i
theorem most_max (q : M → Int) (f : Nat → T) (k : Nat) : max (mostL q f k) (q (f k).m) = mostL q f (k + 1) := by
  show _ = if mostL q f k < q (f k).m then q (f k).m else mostL q f k
  split <;> omega
def filMost (q : M → Int) (n : Nat) (f : Nat → T) : Int := if polOk n f = true then mostL q f n else -1
/-- those of the first terms that are wanted. -/
def wantL (p : T → Bool) (f : Nat → T) : Nat → List T
  | 0 => []
  | i + 1 => if p (f i) = true then wantL p f i ++ [f i] else wantL p f i
theorem wantL_len (p : T → Bool) (f : Nat → T) : ∀ i, (wantL p f i).length ≤ i
  | 0 => Nat.le_refl _
  | i + 1 => by
    have := wantL_len p f i
    unfold wantL
    split
    · rw [List.length_append]; simp; omega
    · omega
def filWith (q : M → Int) (v : Int) (f : Nat → T) (n : Nat) : List T := if polOk n f = true then wantL (fun t => q t.m == v) f n else []
theorem polOk_n {n : Nat} {f : Nat → T} (h : polOk n f = true) : n ≤ 400 := by simp only [polOk, decide_eq_true_eq] at h; exact h.1
theorem filWith_len (q : M → Int) (v : Int) (f : Nat → T) (n : Nat) : (filWith q v f n).length ≤ 400 := by
  unfold filWith
  split
  · rename_i h
    exact Nat.le_trans (wantL_len _ f n) (polOk_n h)
  · simp
/-- what a function counts in a monomial that is ok. -/
def Counts (g : Nat) (q : M → Int) : Prop := ∀ (m : M) (W : World), m.ok = true → Calls Tryz.prog g #[.agg #[.int .i64 m.x, .int .i64 m.y, .int .i64 m.d, .int .i64 m.e]] W fun r w' => r = .returned (.int .i64 (q m)) ∧ Below W.heap.size W w'
set_option maxHeartbeats 400000 in
theorem slopesI (x y d e : Int) (w : World) (h : M.ok ⟨x, y, d, e⟩ = true) :
    Calls Tryz.prog 27 #[.agg #[.int .i64 x, .int .i64 y, .int .i64 d, .int .i64 e]] w fun r w' => r = .returned (.int .i64 (d + e)) ∧ Below w.heap.size w w' := by
  obtain ⟨x1, x2, y1, y2, d1, d2, e1, e2⟩ := M.ok_iff.1 h
  simp only at x1 x2 y1 y2 d1 d2 e1 e2
  clear h
  go_enter Tryz.func27, Tryz.ntmps27
  go_wp2
  go_ret
  exact ⟨rfl, bel_one w _⟩
theorem slopesC : Counts 27 slp := fun m W h => slopesI m.x m.y m.d m.e W h
theorem degreeC : Counts 52 dgr := fun m W h => degreeI m.x m.y m.d m.e W h
set_option maxRecDepth 100000 in
set_option maxHeartbeats 4000000 in
theorem filMostI (w : World) (a : Option Addr) (n cap : Nat) (f : Nat → T) (g : Nat) (q : M → Int) (eg : ∀ args w, (callFunc g args).run Tryz.prog w = .ok (.enter g args) w) (hC : Counts g q) (h : Rd w a n cap f) :
    Calls Tryz.prog 29 #[.slice a n cap, .func (.func g) #[] #[]] w fun r w' => r = .returned (.int .i64 (filMost q n f)) ∧ Below w.heap.size w w' := by
  have HA := Hid.mk' h
  have HC := Hid.mk' hC
  have hn : (n : Int) ≤ 140737488351232 := by have := h.2.1; omega
  clear h hC
  cases hp : polOk n f
  · have e1 : filMost q n f = -1 := by simp [filMost, hp]
    rw [e1]
    go_enter Tryz.func29, Tryz.ntmps29
    go_wp2_with (go_at_call 17; refine (polOkI _ _ _ _ f HA.out).mono ?_; rw [hp]; rintro r w1 ⟨rfl, hb1⟩; have HB1 := Hid.mk' hb1; clear hb1)
    go_ret
    exact ⟨rfl, HB1.out⟩
  · have e1 : filMost q n f = mostL q f n := by simp [filMost, hp]
    rw [e1]
    have HM := Hid.mk' (polOk_m hp)
    go_enter Tryz.func29, Tryz.ntmps29
    go_wp2_with (go_at_call 17; refine (polOkI _ _ _ _ f HA.out).mono ?_; rw [hp]; rintro r w1 ⟨rfl, hb1⟩; have HB1 := Hid.mk' hb1; clear hb1)
    clear hp
    go_loopw [5, 14] (fun v i wr => ∃ k : Nat, k ≤ n ∧ v = .int .i64 (mostL q f k) ∧ i = .int .i64 (k : Int) ∧ Below w.heap.size w wr) (fun _ i _ => n - (intOf i).toNat)
    case atStart => exact ⟨0, Nat.zero_le _, rfl, rfl, HB1.out⟩
    case round =>
      obtain ⟨k, hk, rfl, rfl, hB⟩ := hrel
      by_cases hlt : k < n
      · have hkn : (k : Int) < (n : Int) := by omega
        have hri := HA.out.below hB
        rcases hri.2.2 with h0 | ⟨b, off, hpe, hblt, hcl⟩
        · omega
        obtain ⟨g0, g1, g2, g3, g4⟩ := hcl k hlt
        have HB2 := Hid.mk' (bel_next hB (bel_one wr (.cells #[.int .i64 (f k).c, .int .i64 (f k).m.x, .int .i64 (f k).m.y, .int .i64 (f k).m.d, .int .i64 (f k).m.e] 44)))
        have HCALL := Hid.mk' (HC.out (f k).m (wr.alloc (.cells #[.int .i64 (f k).c, .int .i64 (f k).m.x, .int .i64 (f k).m.y, .int .i64 (f k).m.d, .int .i64 (f k).m.e] 44)) (HM.out k hlt))
        clear hcl hri hB
        subst hpe
        go_wp2_with fail
        refine HCALL.out.mono ?_
        rintro r w4 ⟨rfl, hb4⟩
        have HB4 := Hid.mk' (bel_next HB2.out hb4)
        clear hb4
        go_wp2
        go_roundw
        case rel => exact ⟨k + 1, by omega, by first | rfl | exact congrArg (Value.int IntKind.i64) (most_max q f k), by go_num, HB4.out⟩
        case measure => simp [intOf]; omega
      · obtain rfl : k = n := by omega
        go_wp2
        go_ret
        exact ⟨rfl, hB⟩
/-- a function that says which of the terms are wanted, wherever Q is. -/
def Wants (g : Nat) (lb : Array Value) (p : T → Bool) (Q : World → Prop) (f : Nat → T) (n : Nat) : Prop :=
  ∀ (k : Nat) (W : World), k < n → Q W → Calls Tryz.prog g (#[.agg #[.int .i64 (f k).c, .int .i64 (f k).m.x, .int .i64 (f k).m.y, .int .i64 (f k).m.d, .int .i64 (f k).m.e]] ++ lb) W fun r w' => r = .returned (.bool (p (f k))) ∧ Below W.heap.size W w'
set_option maxRecDepth 100000 in
set_option maxHeartbeats 8000000 in
theorem keepIfI (w : World) (a : Option Addr) (n cap : Nat) (f : Nat → T) (g : Nat) (lb : Array Value) (p : T → Bool) (Q : World → Prop) (eg : ∀ args w, (callFunc g args).run Tryz.prog w = .ok (.enter g args) w) (hW : Wants g lb p Q f n) (hQ : ∀ W', Below w.heap.size w W' → Q W') (h : Rd w a n cap f) (hl : n ≤ 400) :
    Calls Tryz.prog 46 #[.slice a n cap, .func (.func g) #[] lb] w fun r w' => ∃ v, r = .returned v ∧ Below w.heap.size w w' ∧ w'.ownsRow w.heap.size 44 5 v (wantL p f n).length (cellsL (wantL p f n)) := by
  obtain ⟨i0, hi0, hz0, hz1, hz2⟩ := info_parts infoT
  have HA := Hid.mk' h
  have HW := Hid.mk' hW
  have HQ := Hid.mk' hQ
  have hn : (n : Int) ≤ 400 := by omega
  clear h hW hQ
  go_enter Tryz.func46, Tryz.ntmps46
  go_wp2
  go_loopw [5, 10] (fun v i wr => ∃ k : Nat, k ≤ n ∧ i = .int .i64 (k : Int) ∧ Below w.heap.size w wr ∧ wr.ownsRow w.heap.size 44 5 v (wantL p f k).length (cellsL (wantL p f k))) (fun _ i _ => n - (intOf i).toNat)
  case atStart => exact ⟨0, Nat.zero_le _, rfl, Below.refl _ _, ownsT_nil w _⟩
  case round =>
    obtain ⟨k, hk, rfl, hB, hown⟩ := hrel
    by_cases hlt : k < n
    · have hkn : (k : Int) < (n : Int) := by omega
      have hwl := wantL_len p f k
      have hri := HA.out.below hB
      rcases hri.2.2 with h0 | ⟨b, off, hpe, hblt, hcl⟩
      · omega
      obtain ⟨g0, g1, g2, g3, g4⟩ := hcl k hlt
      have HB2 := Hid.mk' (bel_next hB (bel_one wr (.cells #[.int .i64 (f k).c, .int .i64 (f k).m.x, .int .i64 (f k).m.y, .int .i64 (f k).m.d, .int .i64 (f k).m.e] 44)))
      have HCALL := Hid.mk' (HW.out k (wr.alloc (.cells #[.int .i64 (f k).c, .int .i64 (f k).m.x, .int .i64 (f k).m.y, .int .i64 (f k).m.d, .int .i64 (f k).m.e] 44)) hlt (HQ.out _ HB2.out))
      have HO := Hid.mk' (owns_below hown (bel_one wr (.cells #[.int .i64 (f k).c, .int .i64 (f k).m.x, .int .i64 (f k).m.y, .int .i64 (f k).m.d, .int .i64 (f k).m.e] 44)))
      have HBX : Hid (Cells (wr.alloc (.cells #[.int .i64 (f k).c, .int .i64 (f k).m.x, .int .i64 (f k).m.y, .int .i64 (f k).m.d, .int .i64 (f k).m.e] 44)) wr.heap.size 0 (f k)) := by
        refine ⟨?_, ?_, ?_, ?_, ?_⟩ <;> (rw [World.cell?_alloc_at _ _ _ _ rfl]; rfl)
      have hsz : wr.heap.size < (wr.alloc (.cells #[.int .i64 (f k).c, .int .i64 (f k).m.x, .int .i64 (f k).m.y, .int .i64 (f k).m.d, .int .i64 (f k).m.e] 44)).heap.size := by simp
      have HSZ := Hid.mk' hsz
      clear hcl hri hown hB hsz
      subst hpe
      cases hpk : p (f k)
      · have e2 : wantL p f (k + 1) = wantL p f k := by simp [wantL, hpk]
        have HE := Hid.mk' e2
        clear e2
        go_wp2_with fail
        refine HCALL.out.mono ?_
        rw [hpk]
        rintro r w4 ⟨rfl, hb4⟩
        have HB4 := Hid.mk' (bel_next HB2.out hb4)
        have HO4 := Hid.mk' (owns_below HO.out hb4)
        clear hb4
        go_wp2
        go_roundw
        case rel => exact ⟨k + 1, by omega, by go_num, HB4.out, by rw [HE.out]; exact HO4.out⟩
        case measure => simp [intOf]; omega
      · have e2 : wantL p f (k + 1) = wantL p f k ++ [f k] := by simp [wantL, hpk]
        have HE := Hid.mk' e2
        clear e2
        go_wp2_with fail
        refine HCALL.out.mono ?_
        rw [hpk]
        rintro r w4 ⟨rfl, hb4⟩
        have hB4 := bel_next HB2.out hb4
        have hO4 := owns_below HO.out hb4
        obtain ⟨x0, x1, x2, x3, x4⟩ := HBX.out.below hb4 HSZ.out
        clear hb4 g0 g1 g2 g3 g4
        go_wp2_with (at_builtin; refine wpList_append_lies _ rfl (.tmp 17) (.tmp 19) 23 rfl w.heap.size 44 i0 _ 5 40 Tryz.underlying23 hi0 hz0 hz1 hz2 rfl (by omega) _ (wantL p f k).length (cellsL (wantL p f k)) rfl (hO4.alloc _) ⟨w4.heap.size, 0, none⟩ 1 1 (cellsL [f k]) rfl (by rw [cellsL_length]; rfl) (by rw [cellsL_one]; exact World.news_of_block (heap_alloc_new w4 _)) (one_cells _) (by omega) (by unfold maxLen; omega) (by omega) (by have := hB4.size; simp; omega) _ rfl ?_; intro g0 cap0 w1 hown1 hgrow hat hlt1; have HB := Hid.mk' ((hB4.alloc hB4.size _).grown hgrow (Nat.le_trans hB4.size (by simp)) (fun k hk => (hO4.lt k hk).1)); have HO1 := Hid.mk' hown1; clear hown1 hgrow hat hlt1 hO4)
        go_roundw
        case rel => exact ⟨k + 1, by omega, by go_num, HB.out, by rw [HE.out, cellsL_append, List.length_append]; exact HO1.out⟩
        case measure => simp [intOf]; omega
    · obtain rfl : k = n := by omega
      go_wp2
      go_ret
      exact ⟨_, rfl, hB, hown⟩
theorem boxes_kept {w w1 W' : World} {A B : Value} {tA tB : TypeId} (h1 : Below ((w.alloc (.cells #[A] tA)).alloc (.cells #[B] tB)).heap.size ((w.alloc (.cells #[A] tA)).alloc (.cells #[B] tB)) w1) (hb : Below w1.heap.size w1 W') : W'.cell? ⟨w.heap.size, 0, none⟩ = some A ∧ W'.cell? ⟨w.heap.size + 1, 0, none⟩ = some B := by
  have hs : ((w.alloc (.cells #[A] tA)).alloc (.cells #[B] tB)).heap.size = w.heap.size + 2 := by simp
  have hl : w.heap.size + 2 ≤ w1.heap.size := by rw [← hs]; exact h1.size
  refine ⟨(hb.cell (p := ⟨w.heap.size, 0, none⟩) (show w.heap.size < w1.heap.size by omega)).trans ((h1.cell (p := ⟨w.heap.size, 0, none⟩) (by rw [hs]; show w.heap.size < _; omega)).trans ?_), (hb.cell (p := ⟨w.heap.size + 1, 0, none⟩) (show w.heap.size + 1 < w1.heap.size by omega)).trans ((h1.cell (p := ⟨w.heap.size + 1, 0, none⟩) (by rw [hs]; show w.heap.size + 1 < _; omega)).trans ?_)⟩
  · have : Below (w.alloc (.cells #[A] tA)).heap.size (w.alloc (.cells #[A] tA)) ((w.alloc (.cells #[A] tA)).alloc (.cells #[B] tB)) := (Below.refl _ _).alloc (Nat.le_refl _) _
    refine (this.cell (p := ⟨w.heap.size, 0, none⟩) (by simp)).trans ?_
    rw [World.cell?_alloc_at _ _ _ _ rfl]; rfl
  · have e : w.heap.size + 1 = (w.alloc (.cells #[A] tA)).heap.size := by simp
    rw [e, World.cell?_alloc_at _ _ _ _ rfl]; rfl
set_option maxHeartbeats 2000000 in
theorem filWith1_sl (t : T) (v : Int) (B1 B2 : Nat) (W : World) (h1 : W.cell? ⟨B1, 0, none⟩ = some (.func (.func 27) #[] #[])) (h2 : W.cell? ⟨B2, 0, none⟩ = some (.int .i64 v)) (hm : t.m.ok = true) :
    Calls Tryz.prog 47 #[.agg #[.int .i64 t.c, .int .i64 t.m.x, .int .i64 t.m.y, .int .i64 t.m.d, .int .i64 t.m.e], .pointer (some ⟨B1, 0, none⟩), .pointer (some ⟨B2, 0, none⟩)] W fun r w' => r = .returned (.bool (slp t.m == v)) ∧ Below W.heap.size W w' := by
  have l1 := World.block_lt_of_cell? W _ h1
  have l2 := World.block_lt_of_cell? W _ h2
  have HK := Hid.mk' hm
  have B1w := Hid.mk' (bel_one W (.cells #[.int .i64 t.c, .int .i64 t.m.x, .int .i64 t.m.y, .int .i64 t.m.d, .int .i64 t.m.e] 44))
  have ne := Ext.there (W.alloc (.cells #[.int .i64 t.c, .int .i64 t.m.x, .int .i64 t.m.y, .int .i64 t.m.d, .int .i64 t.m.e] 44))
  have s1 := ext_box (w := W) (t := 44) #[.int .i64 t.c, .int .i64 t.m.x, .int .i64 t.m.y, .int .i64 t.m.d, .int .i64 t.m.e] 1 _ rfl
  have s2 := ext_box (w := W) (t := 44) #[.int .i64 t.c, .int .i64 t.m.x, .int .i64 t.m.y, .int .i64 t.m.d, .int .i64 t.m.e] 2 _ rfl
  have s3 := ext_box (w := W) (t := 44) #[.int .i64 t.c, .int .i64 t.m.x, .int .i64 t.m.y, .int .i64 t.m.d, .int .i64 t.m.e] 3 _ rfl
  have s4 := ext_box (w := W) (t := 44) #[.int .i64 t.c, .int .i64 t.m.x, .int .i64 t.m.y, .int .i64 t.m.d, .int .i64 t.m.e] 4 _ rfl
  have c1 : ∀ u : Ext (W.alloc (.cells #[.int .i64 t.c, .int .i64 t.m.x, .int .i64 t.m.y, .int .i64 t.m.d, .int .i64 t.m.e] 44)), u.1.cell? ⟨B1, 0, none⟩ = some (.func (.func 27) #[] #[]) := fun u => (u.cell (Nat.lt_of_lt_of_le l1 B1w.out.size)).trans ((B1w.out.cell (p := ⟨B1, 0, none⟩) l1).trans h1)
  have c2 : ∀ u : Ext (W.alloc (.cells #[.int .i64 t.c, .int .i64 t.m.x, .int .i64 t.m.y, .int .i64 t.m.d, .int .i64 t.m.e] 44)), u.1.cell? ⟨B2, 0, none⟩ = some (.int .i64 v) := fun u => (u.cell (Nat.lt_of_lt_of_le l2 B1w.out.size)).trans ((B1w.out.cell (p := ⟨B2, 0, none⟩) l2).trans h2)
  clear h1 h2 l1 l2 hm
  go_enter Tryz.func47, Tryz.ntmps47
  go_wp2_with fail
  refine wp_region_ext (by kernel_rfl) (by kernel_rfl) ?_
  repeat (go_big_quiet_step ((go_at_call 27; exact ext_grows (slopesC t.m _ HK.out))))
  refine wpQuiet_nil ?_
  rintro _ ⟨u, rfl⟩
  go_wp2
  go_ret
  exact ⟨rfl, B1w.out.trans (u.2.mono B1w.out.size)⟩
set_option maxRecDepth 100000 in
set_option maxHeartbeats 4000000 in
theorem filWith_slI (w : World) (a : Option Addr) (n cap : Nat) (f : Nat → T) (v : Int) (h : Rd w a n cap f) :
    Calls Tryz.prog 26 #[.slice a n cap, .func (.func 27) #[] #[], .int .i64 v] w fun r w' => ∃ v', r = .returned v' ∧ Below w.heap.size w w' ∧ w'.ownsRow w.heap.size 44 5 v' (filWith slp v f n).length (cellsL (filWith slp v f n)) := by
  have HA := Hid.mk' h
  clear h
  cases hp : polOk n f
  · have e1 : filWith slp v f n = [] := by simp [filWith, hp]
    rw [e1]
    go_enter Tryz.func26, Tryz.ntmps26
    go_wp2_with (go_at_call 17; refine (polOkI _ _ _ _ f (HA.out.below (bel_two w _ _))).mono ?_; rw [hp]; rintro r w1 ⟨rfl, hb1⟩; have HB1 := Hid.mk' (bel_next (bel_two w _ _) hb1); clear hb1)
    go_ret
    exact ⟨_, rfl, HB1.out, ownsT_nil w1 _⟩
  · have e1 : filWith slp v f n = wantL (fun t => slp t.m == v) f n := by simp [filWith, hp]
    rw [e1]
    have HM := Hid.mk' (polOk_m hp)
    have hl := polOk_n hp
    go_enter Tryz.func26, Tryz.ntmps26
    go_wp2_with (first
      | (go_at_call 17; refine (polOkI _ _ _ _ f (HA.out.below (bel_two w _ _))).mono ?_; rw [hp]; rintro r w1 ⟨rfl, hb1⟩; have HB1 := Hid.mk' hb1; clear hb1)
      | (go_at_call 46; refine (keepIfI w1 a n cap f 47 #[.pointer (some ⟨w.heap.size, 0, none⟩), .pointer (some ⟨w.heap.size + 1, 0, none⟩)] (fun t => slp t.m == v) (fun W => W.cell? ⟨w.heap.size, 0, none⟩ = some (.func (.func 27) #[] #[]) ∧ W.cell? ⟨w.heap.size + 1, 0, none⟩ = some (.int .i64 v)) (enters_of Tryz.func47 (by kernel_rfl) rfl) (fun k W hk hQ => filWith1_sl (f k) v _ _ W hQ.1 hQ.2 (HM.out k hk)) (fun W' hb => boxes_kept HB1.out hb) ((HA.out.below (bel_two w _ _)).below HB1.out) hl).mono ?_; rintro r w2 ⟨v2, rfl, hb2, ho2⟩))
    go_ret
    exact ⟨_, rfl, bel_next (bel_next (bel_two w _ _) HB1.out) hb2, owns_lower ho2 (bel_next (bel_two w _ _) HB1.out).size⟩
set_option maxHeartbeats 2000000 in
theorem filWith1_dg (t : T) (v : Int) (B1 B2 : Nat) (W : World) (h1 : W.cell? ⟨B1, 0, none⟩ = some (.func (.func 52) #[] #[])) (h2 : W.cell? ⟨B2, 0, none⟩ = some (.int .i64 v)) (hm : t.m.ok = true) :
    Calls Tryz.prog 47 #[.agg #[.int .i64 t.c, .int .i64 t.m.x, .int .i64 t.m.y, .int .i64 t.m.d, .int .i64 t.m.e], .pointer (some ⟨B1, 0, none⟩), .pointer (some ⟨B2, 0, none⟩)] W fun r w' => r = .returned (.bool (dgr t.m == v)) ∧ Below W.heap.size W w' := by
  have l1 := World.block_lt_of_cell? W _ h1
  have l2 := World.block_lt_of_cell? W _ h2
  have HK := Hid.mk' hm
  have B1w := Hid.mk' (bel_one W (.cells #[.int .i64 t.c, .int .i64 t.m.x, .int .i64 t.m.y, .int .i64 t.m.d, .int .i64 t.m.e] 44))
  have ne := Ext.there (W.alloc (.cells #[.int .i64 t.c, .int .i64 t.m.x, .int .i64 t.m.y, .int .i64 t.m.d, .int .i64 t.m.e] 44))
  have s1 := ext_box (w := W) (t := 44) #[.int .i64 t.c, .int .i64 t.m.x, .int .i64 t.m.y, .int .i64 t.m.d, .int .i64 t.m.e] 1 _ rfl
  have s2 := ext_box (w := W) (t := 44) #[.int .i64 t.c, .int .i64 t.m.x, .int .i64 t.m.y, .int .i64 t.m.d, .int .i64 t.m.e] 2 _ rfl
  have s3 := ext_box (w := W) (t := 44) #[.int .i64 t.c, .int .i64 t.m.x, .int .i64 t.m.y, .int .i64 t.m.d, .int .i64 t.m.e] 3 _ rfl
  have s4 := ext_box (w := W) (t := 44) #[.int .i64 t.c, .int .i64 t.m.x, .int .i64 t.m.y, .int .i64 t.m.d, .int .i64 t.m.e] 4 _ rfl
  have c1 : ∀ u : Ext (W.alloc (.cells #[.int .i64 t.c, .int .i64 t.m.x, .int .i64 t.m.y, .int .i64 t.m.d, .int .i64 t.m.e] 44)), u.1.cell? ⟨B1, 0, none⟩ = some (.func (.func 52) #[] #[]) := fun u => (u.cell (Nat.lt_of_lt_of_le l1 B1w.out.size)).trans ((B1w.out.cell (p := ⟨B1, 0, none⟩) l1).trans h1)
  have c2 : ∀ u : Ext (W.alloc (.cells #[.int .i64 t.c, .int .i64 t.m.x, .int .i64 t.m.y, .int .i64 t.m.d, .int .i64 t.m.e] 44)), u.1.cell? ⟨B2, 0, none⟩ = some (.int .i64 v) := fun u => (u.cell (Nat.lt_of_lt_of_le l2 B1w.out.size)).trans ((B1w.out.cell (p := ⟨B2, 0, none⟩) l2).trans h2)
  clear h1 h2 l1 l2 hm
  go_enter Tryz.func47, Tryz.ntmps47
  go_wp2_with fail
  refine wp_region_ext (by kernel_rfl) (by kernel_rfl) ?_
  repeat (go_big_quiet_step ((go_at_call 52; exact ext_grows (degreeC t.m _ HK.out))))
  refine wpQuiet_nil ?_
  rintro _ ⟨u, rfl⟩
  go_wp2
  go_ret
  exact ⟨rfl, B1w.out.trans (u.2.mono B1w.out.size)⟩
set_option maxRecDepth 100000 in
set_option maxHeartbeats 4000000 in
theorem filWith_dgI (w : World) (a : Option Addr) (n cap : Nat) (f : Nat → T) (v : Int) (h : Rd w a n cap f) :
    Calls Tryz.prog 26 #[.slice a n cap, .func (.func 52) #[] #[], .int .i64 v] w fun r w' => ∃ v', r = .returned v' ∧ Below w.heap.size w w' ∧ w'.ownsRow w.heap.size 44 5 v' (filWith dgr v f n).length (cellsL (filWith dgr v f n)) := by
  have HA := Hid.mk' h
  clear h
  cases hp : polOk n f
  · have e1 : filWith dgr v f n = [] := by simp [filWith, hp]
    rw [e1]
    go_enter Tryz.func26, Tryz.ntmps26
    go_wp2_with (go_at_call 17; refine (polOkI _ _ _ _ f (HA.out.below (bel_two w _ _))).mono ?_; rw [hp]; rintro r w1 ⟨rfl, hb1⟩; have HB1 := Hid.mk' (bel_next (bel_two w _ _) hb1); clear hb1)
    go_ret
    exact ⟨_, rfl, HB1.out, ownsT_nil w1 _⟩
  · have e1 : filWith dgr v f n = wantL (fun t => dgr t.m == v) f n := by simp [filWith, hp]
    rw [e1]
    have HM := Hid.mk' (polOk_m hp)
    have hl := polOk_n hp
    go_enter Tryz.func26, Tryz.ntmps26
    go_wp2_with (first
      | (go_at_call 17; refine (polOkI _ _ _ _ f (HA.out.below (bel_two w _ _))).mono ?_; rw [hp]; rintro r w1 ⟨rfl, hb1⟩; have HB1 := Hid.mk' hb1; clear hb1)
      | (go_at_call 46; refine (keepIfI w1 a n cap f 47 #[.pointer (some ⟨w.heap.size, 0, none⟩), .pointer (some ⟨w.heap.size + 1, 0, none⟩)] (fun t => dgr t.m == v) (fun W => W.cell? ⟨w.heap.size, 0, none⟩ = some (.func (.func 52) #[] #[]) ∧ W.cell? ⟨w.heap.size + 1, 0, none⟩ = some (.int .i64 v)) (enters_of Tryz.func47 (by kernel_rfl) rfl) (fun k W hk hQ => filWith1_dg (f k) v _ _ W hQ.1 hQ.2 (HM.out k hk)) (fun W' hb => boxes_kept HB1.out hb) ((HA.out.below (bel_two w _ _)).below HB1.out) hl).mono ?_; rintro r w2 ⟨v2, rfl, hb2, ho2⟩))
    go_ret
    exact ⟨_, rfl, bel_next (bel_next (bel_two w _ _) HB1.out) hb2, owns_lower ho2 (bel_next (bel_two w _ _) HB1.out).size⟩
def filOrder (n : Nat) (f : Nat → T) : Int := filMost slp n f
def filDegree (n : Nat) (f : Nat → T) : Int := filMost dgr n f
theorem filOrderI (w : World) (a : Option Addr) (n cap : Nat) (f : Nat → T) (h : Rd w a n cap f) :
    Calls Tryz.prog 12 #[.slice a n cap] w fun r w' => r = .returned (.int .i64 (filOrder n f)) ∧ Below w.heap.size w w' := by
  have hc := filMostI w a n cap f 27 slp (enters_of Tryz.func27 (by kernel_rfl) rfl) slopesC h
  go_enter Tryz.func12, Tryz.ntmps12
  go_wp2_with (go_at_call 29; refine hc.mono ?_; rintro r w1 ⟨rfl, hb1⟩)
  go_ret
  exact ⟨rfl, hb1⟩
def filSymbol (f : Nat → T) (n : Nat) : List T := filWith slp (filMost slp n f) f n
theorem filSymbol_len (f : Nat → T) (n : Nat) : (filSymbol f n).length ≤ 400 := filWith_len _ _ _ _
def filPart (f : Nat → T) (n : Nat) (v : Int) : List T := filWith dgr v f n
theorem filPart_len (f : Nat → T) (n : Nat) (v : Int) : (filPart f n v).length ≤ 400 := filWith_len _ _ _ _
theorem filSymbolI (w : World) (a : Option Addr) (n cap : Nat) (f : Nat → T) (h : Rd w a n cap f) :
    Calls Tryz.prog 10 #[.slice a n cap] w fun r w' => ∃ a' cap', r = .returned (.slice a' (filSymbol f n).length cap') ∧ Below w.heap.size w w' ∧ Out w.heap.size w' a' cap' (filSymbol f n) := by
  have HA := Hid.mk' h
  have hlen := filSymbol_len f n
  clear h
  go_enter Tryz.func10, Tryz.ntmps10
  go_wp2_with (first
    | (go_at_call 12; refine (filOrderI _ _ _ _ f HA.out).mono ?_; unfold filOrder; rintro r w1 ⟨rfl, hb1⟩)
    | (go_at_call 26; refine (filWith_slI _ _ _ _ f (filMost slp n f) (HA.out.below hb1)).mono ?_; rintro r w2 ⟨v, rfl, hb2, ho2⟩))
  go_ret
  obtain ⟨a', cap', rfl, hout⟩ := out_of_owns (owns_lower ho2 hb1.size) (by have := filWith_len slp (filMost slp n f) f n; omega)
  exact ⟨a', cap', rfl, bel_next hb1 hb2, hout⟩
end Go.Proofs.YtlndccbgbclnhaaGreat
