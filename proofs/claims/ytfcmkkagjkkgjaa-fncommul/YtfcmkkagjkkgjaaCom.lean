/-
  The product of two operators as if all commuted: the program.
-/
import Derived.Test.YtfcmkkagjkkgjaaGaz
import Derived.Test.YtfcmkkagjkkgjaaGac
import Derived.Deep.RegionHeld3
namespace Go.Proofs.Ytfcmkkagjkkgjaa
open Go.RowKit Go.Maps
set_option linter.unusedVariables false

/-- one product more, as if all commuted; nothing, if it is too much. -/
def comStep (K : List T) (a b : T) : Option (List T) := if (a.m.sum b.m).ok = true then some (putT (a.c * b.c % 101) (a.m.sum b.m) K) else none
def rowC (K : List T) (a : T) (g : Nat → T) : Nat → Option (List T)
  | 0 => some K
  | k + 1 => (rowC K a g k).bind fun K' => comStep K' a (g k)
theorem rowC_none {K : List T} {a : T} {g : Nat → T} {k : Nat} (h : rowC K a g k = none) : ∀ j, k ≤ j → rowC K a g j = none := fun j hj => by
  induction j with
  | zero =>
    have e : k = 0 := by omega
    rw [e] at h
    exact h
  | succ j ih =>
    by_cases e : k = j + 1
    · rw [← e]; exact h
    · rw [rowC, ih (by omega)]; rfl
theorem rowC_len {K : List T} {a : T} {g : Nat → T} : ∀ k K', rowC K a g k = some K' → K'.length ≤ K.length + k
  | 0, K', h => by cases h; exact Nat.le_refl _
  | k + 1, K', h => by
    rw [rowC] at h
    cases hr : rowC K a g k with
    | none => rw [hr] at h; cases h
    | some K1 =>
      rw [hr] at h
      change comStep K1 a (g k) = some K' at h
      have h1 := rowC_len k K1 hr
      unfold comStep at h
      split at h
      · cases h
        have := putT_len (a.c * (g k).c % 101) (a.m.sum (g k).m) K1
        omega
      · cases h
def comMul (f : Nat → T) (la : Nat) (g : Nat → T) (lb : Nat) : List T × Bool := if polOk la f = true ∧ polOk lb g = true then mulO (eachM (fun K t => rowC K t g lb) f la) else ([], false)
theorem comMul_len (f : Nat → T) (la : Nat) (g : Nat → T) (lb : Nat) : (comMul f la g lb).1.length ≤ 400 := by
  unfold comMul
  split
  · cases h : eachM (fun K t => rowC K t g lb) f la with
    | none => simp [mulO]
    | some K => exact eachM_len la K h
  · simp
theorem apartMap {w : World} {b n : Nat} {c : M → Int} (hS : SumR w b n c) {a : Option Addr} {la ca : Nat} {f : Nat → T} (h : Rd w a la ca f) : la = 0 ∨ ∀ b' off, a = some ⟨b', off, none⟩ → some b' ≠ some b := by
  by_cases h0 : la = 0
  · exact .inl h0
  rcases h.2.2 with h1 | ⟨pb, off, rfl, hlt, hc⟩
  · exact .inl h1
  refine .inr (fun b' off' e e' => ?_)
  cases e
  cases e'
  obtain ⟨D, ⟨es, clock, h1, _⟩, _⟩ := hS
  have hk := (hc 0 (by omega)).1
  unfold World.cell? at hk
  simp only [h1] at hk
  cases hk
/-- the cells that the last step reads. -/
abbrev S6 (b1 b2 b3 : Nat) (ca cb : Int) (m : M) (u : World) : Prop := u.cell? ⟨b1, 0, none⟩ = some (.int .i64 ca) ∧ u.cell? ⟨b2, 0, none⟩ = some (.int .i64 cb) ∧ u.cell? ⟨b3, 0, none⟩ = some (.int .i64 m.x) ∧ u.cell? ⟨b3, 1, none⟩ = some (.int .i64 m.y) ∧ u.cell? ⟨b3, 2, none⟩ = some (.int .i64 m.d) ∧ u.cell? ⟨b3, 3, none⟩ = some (.int .i64 m.e)
theorem S6.grown {b1 b2 b3 b : Nat} {ca cb : Int} {m : M} {u u' : World} (h : S6 b1 b2 b3 ca cb m u) (hg : u.grownBy u' (some b)) (n1 : b1 ≠ b) (n2 : b2 ≠ b) (n3 : b3 ≠ b) : S6 b1 b2 b3 ca cb m u' := by
  have k : ∀ (x o : Nat) (v : Value), x ≠ b → u.cell? ⟨x, o, none⟩ = some v → u'.cell? ⟨x, o, none⟩ = some v := fun x o v hx hv =>
    (World.cell?_of_block (w := u) (a := ⟨x, o, none⟩) (hg.block x (World.block_lt_of_cell? u ⟨x, o, none⟩ hv) (fun e => hx (by cases e; rfl)))).trans hv
  exact ⟨k _ _ _ n1 h.1, k _ _ _ n2 h.2.1, k _ _ _ n3 h.2.2.1, k _ _ _ n3 h.2.2.2.1, k _ _ _ n3 h.2.2.2.2.1, k _ _ _ n3 h.2.2.2.2.2⟩
set_option maxRecDepth 100000 in
set_option maxHeartbeats 8000000 in
theorem addComI (w : World) (bm : Nat) (c : M → Int) (K : List T) (hS : SumR w bm 65536 c) (hK : Falls K) (hKc : ∀ m, m.ok = true → coef K m = c m) (a : T) (ha : a.m.ok = true ∧ 1 ≤ a.c ∧ a.c ≤ 100) (p : Option Addr) (lb cb : Nat) (g : Nat → T) (hr : Rd w p lb cb g) (hp : polOk lb g = true) :
    Calls Try.prog 64 #[.map (some bm), .agg #[.int .i64 a.c, .int .i64 a.m.x, .int .i64 a.m.y, .int .i64 a.m.d, .int .i64 a.m.e], .slice p lb cb] w fun e w' => w.grownBy w' (some bm) ∧
      ((∃ K' c', rowC K a g lb = some K' ∧ e = .returned (.bool true) ∧ SumR w' bm 65536 c' ∧ Falls K' ∧ ∀ m, m.ok = true → coef K' m = c' m) ∨ (rowC K a g lb = none ∧ e = .returned (.bool false))) := by
  have hblt := hS.lt
  have HR := Hid.mk' hr
  have HAP := Hid.mk' (apartMap hS hr)
  have hlb : (lb : Int) ≤ 140737488351232 := by have := hr.2.1; omega
  have HP := Hid.mk' hp
  have HS0 := Hid.mk' (hS.grown (World.grownBy_alloc w (.cells #[.int .i64 a.c, .int .i64 a.m.x, .int .i64 a.m.y, .int .i64 a.m.d, .int .i64 a.m.e] 39) none) (by simp))
  have HG0 := Hid.mk' (World.grownBy_alloc w (.cells #[.int .i64 a.c, .int .i64 a.m.x, .int .i64 a.m.y, .int .i64 a.m.d, .int .i64 a.m.e] 39) (some bm))
  have HT0 : Hid (TermAt (w.alloc (.cells #[.int .i64 a.c, .int .i64 a.m.x, .int .i64 a.m.y, .int .i64 a.m.d, .int .i64 a.m.e] 39)) w.heap.size a) := World.alloc_heap_new w _
  clear hS hr hp
  go_enter Try.func64, Try.ntmps64
  go_wp2
  generalize w.alloc (.cells #[.int .i64 a.c, .int .i64 a.m.x, .int .i64 a.m.y, .int .i64 a.m.d, .int .i64 a.m.e] 39) = w0 at *
  go_loopw [13] (fun v wr => ∃ (k : Nat) (K' : List T) (c' : M → Int), k ≤ lb ∧ v = .int .i64 (k : Int) ∧ rowC K a g k = some K' ∧ Falls K' ∧ (∀ m, m.ok = true → coef K' m = c' m) ∧ SumR wr bm 65536 c' ∧ w.grownBy wr (some bm) ∧ TermAt wr w.heap.size a) (fun v _ => lb - (intOf v).toNat)
  case atStart => exact ⟨0, K, c, Nat.zero_le _, rfl, rfl, hK, hKc, HS0.out, HG0.out, HT0.out⟩
  case round =>
    obtain ⟨k, K', c', hk, rfl, hM, hKf, hKc', hS, hg, hT⟩ := hrel
    by_cases hlt : k < lb
    · have hkl : (k : Int) < (lb : Int) := by omega
      have hri := HR.out.grown hg HAP.out
      rcases hri.2.2 with h0 | ⟨pb, off, hpe, hpl, hcl⟩
      · omega
      obtain ⟨g0, g1, g2, g3, g4⟩ := hcl k hlt
      have hgk := (fl_of_ok HP.out).2 k hlt
      have hTlt : w.heap.size < wr.heap.size := (Array.getElem?_eq_some_iff.1 hT).1
      have hTk : TermAt (wr.alloc (.cells #[.int .i64 (g k).c, .int .i64 (g k).m.x, .int .i64 (g k).m.y, .int .i64 (g k).m.d, .int .i64 (g k).m.e] 39)) w.heap.size a := (Below.heap_alloc wr _ _ hTlt).trans hT
      have hXk : TermAt (wr.alloc (.cells #[.int .i64 (g k).c, .int .i64 (g k).m.x, .int .i64 (g k).m.y, .int .i64 (g k).m.d, .int .i64 (g k).m.e] 39)) wr.heap.size (g k) := World.alloc_heap_new wr _
      obtain ⟨a0, a1, a2, a3, a4⟩ := hTk.cells
      have HG1 := Hid.mk' (hg.trans (World.grownBy_alloc wr (.cells #[.int .i64 (g k).c, .int .i64 (g k).m.x, .int .i64 (g k).m.y, .int .i64 (g k).m.d, .int .i64 (g k).m.e] 39) (some bm)))
      have HS1 := Hid.mk' (hS.grown (World.grownBy_alloc wr (.cells #[.int .i64 (g k).c, .int .i64 (g k).m.x, .int .i64 (g k).m.y, .int .i64 (g k).m.d, .int .i64 (g k).m.e] 39) none) (by simp))
      have HTA := Hid.mk' hTk
      have HXA := Hid.mk' hXk
      have HM := Hid.mk' hM
      have hmm := monMulI a.m.x a.m.y a.m.d a.m.e (g k).m.x (g k).m.y (g k).m.d (g k).m.e
      have ea : (⟨a.m.x, a.m.y, a.m.d, a.m.e⟩ : M) = a.m := rfl
      have eb : (⟨(g k).m.x, (g k).m.y, (g k).m.d, (g k).m.e⟩ : M) = (g k).m := rfl
      rw [ea, eb] at hmm
      have hbw : bm < wr.heap.size := hS.lt
      have hne1 : w.heap.size ≠ bm := by omega
      have hne2 : wr.heap.size ≠ bm := by omega
      have hcr := hS.range
      subst hpe
      clear hcl hri hg hS hM hT hTk hXk ea eb
      by_cases hok : (a.m.sum (g k).m).ok = true
      · have hmul : M.mul a.m (g k).m = (a.m.sum (g k).m, true) := by simp [M.mul, ha.1, hgk.1, hok]
        rw [hmul] at hmm
        have hst : rowC K a g (k + 1) = some (putT (a.c * (g k).c % 101) (a.m.sum (g k).m) K') := by rw [rowC, HM.out]; show comStep _ _ _ = _; unfold comStep; rw [if_pos hok]
        have HST := Hid.mk' hst
        have hput := putT_facts (c := a.c * (g k).c % 101) hKf hok (by omega) (by omega)
        have hv1 : 0 ≤ a.c * (g k).c % 101 := by omega
        have hv2 : a.c * (g k).c % 101 ≤ 100 := by omega
        clear hmul hst
        generalize hsum : a.m.sum (g k).m = q at *
        go_wp2_with (go_at_call 69; refine (hmm _).mono ?_; rintro e w4 ⟨rfl, hb4⟩; have HB4 := Hid.mk' hb4; have kA : TermAt w4 w.heap.size a := (hb4.block _ (by simp; omega)).trans HTA.out; have kX : TermAt w4 wr.heap.size (g k) := (hb4.block _ (by simp)).trans HXA.out; have hs4 := hb4.size; simp only [World.size_alloc] at hs4; obtain ⟨x0, x1, x2, x3, x4⟩ := kA.cells; obtain ⟨y0, y1, y2, y3, y4⟩ := kX.cells; have HKA := Hid.mk' kA; clear hb4 kA kX)
        obtain ⟨m0, m1, m2, m3⟩ := M4.box w4 37 q.x q.y q.d q.e
        have hB5 := bel_one w4 (.cells #[.int .i64 q.x, .int .i64 q.y, .int .i64 q.d, .int .i64 q.e] 37)
        have z1 := (hB5.cell (p := ⟨w.heap.size, 0, none⟩) (show w.heap.size < w4.heap.size by omega)).trans x0
        have z2 := (hB5.cell (p := ⟨wr.heap.size, 0, none⟩) (show wr.heap.size < w4.heap.size by omega)).trans y0
        have hS0 : S6 w.heap.size wr.heap.size w4.heap.size a.c (g k).c q (w4.alloc (.cells #[.int .i64 q.x, .int .i64 q.y, .int .i64 q.d, .int .i64 q.e] 37)).drew := ⟨z1, z2, m0, m1, m2, m3⟩
        have HG5 : Hid ((wr.alloc (.cells #[.int .i64 (g k).c, .int .i64 (g k).m.x, .int .i64 (g k).m.y, .int .i64 (g k).m.d, .int .i64 (g k).m.e] 39)).grownBy (w4.alloc (.cells #[.int .i64 q.x, .int .i64 q.y, .int .i64 q.d, .int .i64 q.e] 37)).drew none) := grown_of_below (bel_next HB4.out hB5.drew)
        have HS5 := Hid.mk' (HS1.out.grown HG5.out (by simp))
        have HKA5 : Hid (TermAt (w4.alloc (.cells #[.int .i64 q.x, .int .i64 q.y, .int .i64 q.d, .int .i64 q.e] 37)).drew w.heap.size a) := (Below.heap_alloc w4 _ _ (show w.heap.size < w4.heap.size by omega)).trans HKA.out
        have hne3 : w4.heap.size ≠ bm := by omega
        have HG6 := Hid.mk' (HG1.out.trans (⟨HG5.out.os, HG5.out.tape, HG5.out.output, HG5.out.size, fun j hj _ => HG5.out.block j hj (by simp)⟩ : (wr.alloc (.cells #[.int .i64 (g k).c, .int .i64 (g k).m.x, .int .i64 (g k).m.y, .int .i64 (g k).m.d, .int .i64 (g k).m.e] 39)).grownBy (w4.alloc (.cells #[.int .i64 q.x, .int .i64 q.y, .int .i64 q.d, .int .i64 q.e] 37)).drew (some bm)))
        clear x0 x1 x2 x3 x4 y0 y1 y2 y3 y4 z1 z2 m0 m1 m2 m3 a0 a1 a2 a3 a4 g0 g1 g2 g3 g4 hmm hB5 HG5
        go_region_held3 (fun u => u.cell? ⟨w.heap.size, 0, none⟩ = some (.int .i64 a.c) ∧ u.cell? ⟨wr.heap.size, 0, none⟩ = some (.int .i64 (g k).c) ∧ u.cell? ⟨w4.heap.size, 0, none⟩ = some (.int .i64 q.x) ∧ u.cell? ⟨w4.heap.size, 1, none⟩ = some (.int .i64 q.y) ∧ u.cell? ⟨w4.heap.size, 2, none⟩ = some (.int .i64 q.d) ∧ u.cell? ⟨w4.heap.size, 3, none⟩ = some (.int .i64 q.e)) (first | with_reducible exact hS0 | with_reducible exact S6.grown hS0 hg7 hne1 hne2 hne3) (first | (go_at_call 67; refine (times _ _ _ (by omega) ha.2.2 (by omega) hgk.2.2).mono ?_; rintro e w6 ⟨rfl, hw6⟩; obtain rfl := hw6.symm; clear hw6) | (go_at_call 45; refine (sumAddR bm 65536 c' _ q _ hok HS5.out (by unfold maxLen; omega) hv1 hv2).mono ?_; rintro e w7 ⟨rfl, hs7, hg7⟩))
        all_goals
          have HS7 := Hid.mk' hs7.cap
          have HG7 := Hid.mk' (HG6.out.trans hg7)
          have HT7 : Hid (TermAt w7 w.heap.size a) := (hg7.block _ (by have := (Array.getElem?_eq_some_iff.1 HKA5.out).1; exact this) (fun e => hne1 (by cases e; rfl))).trans HKA5.out
          clear hs7 hg7
          go_wp2
          go_roundw
          case rel =>
            refine ⟨k + 1, _, _, by omega, by go_num, HST.out, hput.1, fun m hmo => ?_, HS7.out, HG7.out, HT7.out⟩
            rw [hput.2]
            unfold updC
            split
            · rw [hKc' _ hok]
            · exact hKc' m hmo
          case measure => simp [intOf]; omega
      · have hmul : M.mul a.m (g k).m = (M.zero, false) := by simp [M.mul, hok]
        rw [hmul] at hmm
        have hno : rowC K a g lb = none := rowC_none (k := k + 1) (by rw [rowC, HM.out]; show comStep _ _ _ = _; unfold comStep; rw [if_neg hok]) lb (by omega)
        clear hmul
        go_wp2_with (go_at_call 69; refine (hmm _).mono ?_; rintro e w4 ⟨rfl, hb4⟩; have HB4 := Hid.mk' hb4; clear hb4)
        go_ret
        have hb5 := bel_next HB4.out (bel_one w4 (.cells #[.int .i64 M.zero.x, .int .i64 M.zero.y, .int .i64 M.zero.d, .int .i64 M.zero.e] 37))
        exact ⟨HG1.out.trans (⟨hb5.os, hb5.tape, hb5.output, hb5.size, fun j hj _ => hb5.block j hj⟩), .inr ⟨hno, rfl⟩⟩
    · obtain rfl : k = lb := by omega
      have HM := Hid.mk' hM
      have HSk := Hid.mk' hS
      have HGk := Hid.mk' hg
      clear hS hg hM hT
      go_wp2
      go_ret
      exact ⟨HGk.out, .inl ⟨K', c', HM.out, rfl, HSk.out, hKf, hKc'⟩⟩
set_option maxRecDepth 100000 in
set_option maxHeartbeats 4000000 in
theorem comTurns (SB : Nat) (p : Option Addr) (lb cb : Nat) (g : Nat → T) (hp : polOk lb g = true) :
    Turns 63 #[.pointer (some ⟨SB, 0, none⟩)] (fun K t => rowC K t g lb) (fun W => W.cell? ⟨SB, 0, none⟩ = some (.slice p lb cb) ∧ Rd W p lb cb g) := by
  intro W bm c K a hS hK hKc hl ha hq
  have hB0 := bel_one W (.cells #[.int .i64 a.c, .int .i64 a.m.x, .int .i64 a.m.y, .int .i64 a.m.d, .int .i64 a.m.e] 39)
  have q0 : (W.alloc (.cells #[.int .i64 a.c, .int .i64 a.m.x, .int .i64 a.m.y, .int .i64 a.m.d, .int .i64 a.m.e] 39)).cell? ⟨SB, 0, none⟩ = some (.slice p lb cb) := (hB0.cell (p := ⟨SB, 0, none⟩) (World.block_lt_of_cell? W ⟨SB, 0, none⟩ hq.1)).trans hq.1
  have hcall := addComI (W.alloc (.cells #[.int .i64 a.c, .int .i64 a.m.x, .int .i64 a.m.y, .int .i64 a.m.d, .int .i64 a.m.e] 39)) bm c K (hS.grown (World.grownBy_alloc W (.cells #[.int .i64 a.c, .int .i64 a.m.x, .int .i64 a.m.y, .int .i64 a.m.d, .int .i64 a.m.e] 39) none) (by simp)) hK hKc a ha p lb cb g (hq.2.below hB0) hp
  have HG0 := Hid.mk' (World.grownBy_alloc W (.cells #[.int .i64 a.c, .int .i64 a.m.x, .int .i64 a.m.y, .int .i64 a.m.d, .int .i64 a.m.e] 39) (some bm))
  clear hS hq
  show Calls Try.prog 63 #[.map (some bm), .agg #[.int .i64 a.c, .int .i64 a.m.x, .int .i64 a.m.y, .int .i64 a.m.d, .int .i64 a.m.e], .pointer (some ⟨SB, 0, none⟩)] W _
  go_enter Try.func63, Try.ntmps63
  go_wp2_with fail
  refine hcall.mono ?_
  rintro r w2 ⟨hg2, (⟨K', c', h1, rfl, h3, h4, h5⟩ | ⟨h1, rfl⟩)⟩
  · go_wp2
    go_ret
    exact ⟨HG0.out.trans hg2, .inl ⟨K', c', h1, rfl, h3, h4, h5⟩⟩
  · go_wp2
    go_ret
    exact ⟨HG0.out.trans hg2, .inr ⟨h1, rfl⟩⟩
theorem comQ {w w1 : World} {b : Option Addr} {lb cb : Nat} {g : Nat → T} (hR : Rd w b lb cb g) (hl : w.heap.size + 1 ≤ w1.heap.size) : ∀ (W W' : World) (bm : Nat), (W.cell? ⟨w.heap.size, 0, none⟩ = some (.slice b lb cb) ∧ Rd W b lb cb g) → w1.heap.size ≤ bm → W.grownBy W' (some bm) → (W'.cell? ⟨w.heap.size, 0, none⟩ = some (.slice b lb cb) ∧ Rd W' b lb cb g) := fun W W' bm hq hlo hg => by
  have n1 : w.heap.size ≠ bm := by omega
  refine ⟨(World.cell?_of_block (w := W) (a := ⟨w.heap.size, 0, none⟩) (hg.block _ (World.block_lt_of_cell? W ⟨w.heap.size, 0, none⟩ hq.1) (fun e => n1 (by cases e; rfl)))).trans hq.1, hq.2.grown hg ?_⟩
  rcases hR.2.2 with h0 | ⟨b3, o3, h1, h2, _⟩
  · exact .inl h0
  · refine .inr (fun b' off' e1 e2 => ?_)
    rw [h1] at e1
    cases e1
    cases e2
    omega
set_option maxRecDepth 100000 in
set_option maxHeartbeats 4000000 in
theorem comMulI (w : World) (a b : Option Addr) (la ca lb cb : Nat) (f g : Nat → T) (ha : Rd w a la ca f) (hb : Rd w b lb cb g) :
    Calls Try.prog 31 #[.slice a la ca, .slice b lb cb] w fun r w' => ∃ a' cap', r = .returned (.tuple #[.slice a' (comMul f la g lb).1.length cap', .bool (comMul f la g lb).2]) ∧ Below w.heap.size w w' ∧ Out w.heap.size w' a' cap' (comMul f la g lb).1 := by
  have HA := Hid.mk' ha
  have HB := Hid.mk' hb
  have hlen := comMul_len f la g lb
  have hbx := bel_one w (.cells #[.slice b lb cb] 23)
  have q0 : (w.alloc (.cells #[.slice b lb cb] 23)).cell? ⟨w.heap.size, 0, none⟩ = some (.slice b lb cb) := by rw [World.cell?_alloc_at _ _ _ _ rfl]; rfl
  clear ha hb
  cases hpb : polOk lb g
  · have e1 : comMul f la g lb = ([], false) := by simp [comMul, hpb]
    rw [e1]
    go_enter Try.func31, Try.ntmps31
    go_wp2_with (go_at_call 25; refine (polOkI _ _ _ _ g (HB.out.below hbx)).mono ?_; rw [hpb]; rintro r w1 ⟨rfl, hb1⟩; have HB1 := Hid.mk' (bel_next hbx hb1); clear hb1)
    refine bodyPost_ret (results_tmp2 rfl _ _ _) rfl ?_
    obtain ⟨a', cap', h1, hout⟩ := out_of_owns (L := []) (owns_nil w1 w.heap.size) (by simp)
    cases h1
    exact ⟨_, _, rfl, HB1.out, hout⟩
  · have e1 : comMul f la g lb = mapV (fun K t => rowC K t g lb) f la := by
      unfold comMul mapV
      by_cases hpa : polOk la f = true
      · rw [if_pos ⟨hpa, hpb⟩, if_pos hpa]
      · rw [if_neg (fun h => hpa h.1), if_neg hpa]
    rw [e1] at hlen ⊢
    clear e1
    go_enter Try.func31, Try.ntmps31
    go_wp2_with (first
      | (go_at_call 25; refine (polOkI _ _ _ _ g (HB.out.below hbx)).mono ?_; rw [hpb]; rintro r w1 ⟨rfl, hb1⟩; have hl1 : w.heap.size + 1 ≤ w1.heap.size := (by have := hb1.size; simpa using this); have q1 := (hb1.cell (p := ⟨w.heap.size, 0, none⟩) (by simp)).trans q0; have HB1 := Hid.mk' (bel_next hbx hb1); clear hb1)
      | (go_at_call 37; refine (mapEachV w1 a la ca f 63 #[.pointer (some ⟨w.heap.size, 0, none⟩)] (fun K t => rowC K t g lb) _ (enters_of Try.func63 (by kernel_rfl) rfl) (comTurns w.heap.size b lb cb g hpb) (comQ HB.out hl1) (fun W' hq hb => ⟨(hb.cell (p := ⟨w.heap.size, 0, none⟩) (show w.heap.size < w1.heap.size from hl1)).trans hq.1, hq.2.below hb⟩) ⟨q1, HB.out.below HB1.out⟩ (HA.out.below HB1.out)).mono ?_; rintro r w2 ⟨v2, rfl, hb2, ho2⟩))
    refine bodyPost_ret (results_tmp2 rfl _ _ _) rfl ?_
    obtain ⟨a', cap', rfl, hout⟩ := out_of_owns (owns_lower ho2 HB1.out.size) (by omega)
    exact ⟨a', cap', rfl, bel_next HB1.out hb2, hout⟩
end Go.Proofs.Ytfcmkkagjkkgjaa
