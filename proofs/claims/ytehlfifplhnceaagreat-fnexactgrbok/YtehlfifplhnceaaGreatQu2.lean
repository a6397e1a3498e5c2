/-
  One more operator comes to the queue, with its pairs.
-/
import Derived.Test.YtehlfifplhnceaaGreatQu
import Derived.Deep.RegionLaw
namespace Go.Proofs.YtehlfifplhnceaaGreat
open Go.RowKit Go.Deep Go.Joins
set_option linter.unusedVariables false

theorem Fr.step {P P' : Nat → Prop} {a b c : World} (h : Fr P a b) (k : Fr P' b c) (hp : ∀ i, i < a.heap.size → P' i → P i) : Fr P a c :=
  ⟨k.os.trans h.os, k.tape.trans h.tape, k.output.trans h.output, Nat.le_trans h.size k.size, fun i hi hn => (k.block i (Nat.lt_of_lt_of_le hi h.size) (fun e => hn (hp i hi e))).trans (h.block i hi hn)⟩
abbrev S11 (u : World) (b1 b2 Q z : Nat) (t1 t2 : T) (lv : Value) : Prop :=
  u.cell? ⟨b1, 0, none⟩ = some (.int .i64 t1.c) ∧ u.cell? ⟨b1, 1, none⟩ = some (.int .i64 t1.m.x) ∧ u.cell? ⟨b1, 2, none⟩ = some (.int .i64 t1.m.y) ∧ u.cell? ⟨b1, 3, none⟩ = some (.int .i64 t1.m.d) ∧ u.cell? ⟨b1, 4, none⟩ = some (.int .i64 t1.m.e) ∧ u.cell? ⟨b2, 0, none⟩ = some (.int .i64 t2.c) ∧ u.cell? ⟨b2, 1, none⟩ = some (.int .i64 t2.m.x) ∧ u.cell? ⟨b2, 2, none⟩ = some (.int .i64 t2.m.y) ∧ u.cell? ⟨b2, 3, none⟩ = some (.int .i64 t2.m.d) ∧ u.cell? ⟨b2, 4, none⟩ = some (.int .i64 t2.m.e) ∧ u.cell? ⟨Q, z, none⟩ = some lv
theorem S11.mk {u : World} {b1 b2 Q z : Nat} {t1 t2 : T} {lv : Value} (h1 : C5 u b1 t1) (h2 : C5 u b2 t2) (h3 : u.cell? ⟨Q, z, none⟩ = some lv) : S11 u b1 b2 Q z t1 t2 lv := ⟨h1.1, h1.2.1, h1.2.2.1, h1.2.2.2.1, h1.2.2.2.2, h2.1, h2.2.1, h2.2.2.1, h2.2.2.2.1, h2.2.2.2.2, h3⟩
theorem S11.below {u u' : World} {b1 b2 Q z : Nat} {t1 t2 : T} {lv : Value} (h : S11 u b1 b2 Q z t1 t2 lv) (hb : Below u.heap.size u u') : S11 u' b1 b2 Q z t1 t2 lv := by
  obtain ⟨a0, a1, a2, a3, a4, c0, c1, c2, c3, c4, d0⟩ := h
  have l1 := World.block_lt_of_cell? u _ a0
  have l2 := World.block_lt_of_cell? u _ c0
  have l3 := World.block_lt_of_cell? u _ d0
  exact ⟨(hb.cell (p := ⟨b1, 0, none⟩) l1).trans a0, (hb.cell (p := ⟨b1, 1, none⟩) l1).trans a1, (hb.cell (p := ⟨b1, 2, none⟩) l1).trans a2, (hb.cell (p := ⟨b1, 3, none⟩) l1).trans a3, (hb.cell (p := ⟨b1, 4, none⟩) l1).trans a4, (hb.cell (p := ⟨b2, 0, none⟩) l2).trans c0, (hb.cell (p := ⟨b2, 1, none⟩) l2).trans c1, (hb.cell (p := ⟨b2, 2, none⟩) l2).trans c2, (hb.cell (p := ⟨b2, 3, none⟩) l2).trans c3, (hb.cell (p := ⟨b2, 4, none⟩) l2).trans c4, (hb.cell (p := ⟨Q, z, none⟩) l3).trans d0⟩
theorem S11.fr {P : Nat → Prop} {u u' : World} {b1 b2 Q z : Nat} {t1 t2 : T} {lv : Value} (h : S11 u b1 b2 Q z t1 t2 lv) (hf : Fr P u u') (h1 : ¬ P b1) (h2 : ¬ P b2) (h3 : u'.cell? ⟨Q, z, none⟩ = some lv) : S11 u' b1 b2 Q z t1 t2 lv := by
  obtain ⟨a0, a1, a2, a3, a4, c0, c1, c2, c3, c4, d0⟩ := h
  have l1 := World.block_lt_of_cell? u _ a0
  have l2 := World.block_lt_of_cell? u _ c0
  exact ⟨(hf.cell l1 h1).trans a0, (hf.cell l1 h1).trans a1, (hf.cell l1 h1).trans a2, (hf.cell l1 h1).trans a3, (hf.cell l1 h1).trans a4, (hf.cell l2 h2).trans c0, (hf.cell l2 h2).trans c1, (hf.cell l2 h2).trans c2, (hf.cell l2 h2).trans c3, (hf.cell l2 h2).trans c4, h3⟩
theorem S11.c5 {u : World} {b1 b2 Q z : Nat} {t1 t2 : T} {lv : Value} (h : S11 u b1 b2 Q z t1 t2 lv) : C5 u b2 t2 := ⟨h.2.2.2.2.2.1, h.2.2.2.2.2.2.1, h.2.2.2.2.2.2.2.1, h.2.2.2.2.2.2.2.2.1, h.2.2.2.2.2.2.2.2.2.1⟩
theorem gb_cell {w w' : World} {row : Option Nat} (hg : w.grownBy w' row) {b o : Nat} (hb : b < w.heap.size) (hne : ¬ row = some b) : w'.cell? ⟨b, o, none⟩ = w.cell? ⟨b, o, none⟩ := World.cell?_of_block (w := w) (a := ⟨b, o, none⟩) (hg.block b hb (fun e => hne e.symm))
theorem gb_frozen {w w' : World} {row : Option Nat} (hg : w.grownBy w' row) {b o : Nat} (hb : b < w.heap.size) (hne : ¬ row = some b) : w'.frozen? ⟨b, o, none⟩ = w.frozen? ⟨b, o, none⟩ := World.frozen?_of_block (w := w) (a := ⟨b, o, none⟩) (hg.block b hb (fun e => hne e.symm))
theorem rng_succ (kf : Nat → T) (m : Nat) : (List.range (m + 1)).map kf = (List.range m).map kf ++ [kf m] := by simp [List.range_succ]
theorem lf_rng (kf : Nat → T) {m i : Nat} (h : i < m) : lf ((List.range m).map kf) i = kf i := by
  rw [lf_eq (by simpa using h)]
  simp
/-- the greatest terms are one more. -/
theorem Que.lead {w w' : World} {lo Q z : Nat} {lv lv' : Value} {m : Nat} {kf : Nat → T} {B : Nat → Nat} {a e : Nat} (h : Que w lo Q z lv m kf B a e) {row : Option Nat} (hg : w.grownBy w' row) (hr : row = lv.ownBlock) (ho : w'.ownsRow lo 59 5 lv' ((List.range (m + 1)).map kf).length (cellsL ((List.range (m + 1)).map kf))) (hl : ∀ g, lv'.ownBlock = some g → lv.ownBlock = some g ∨ g = w.heap.size) : Que (w'.setCell ⟨Q, z, none⟩ lv') lo Q z lv' (m + 1) kf B a e := by
  have f1 : Fr (fun k => lv.ownBlock = some k) w w' := (Fr.refl _ w).grown hg (fun g e _ => by rw [hr] at e; exact e)
  have f2 : Fr (fun k => k = Q) w' (w'.setCell ⟨Q, z, none⟩ lv') := (Fr.refl _ w').set (fun _ => rfl)
  have nQ : ¬ lv.ownBlock = some Q := fun e => h.ap Q e rfl
  have hlt : Q < w.heap.size := h.lt
  have ap' : ∀ g, lv'.ownBlock = some g → g ≠ Q := fun g hg' => by
    rcases hl g hg' with q | q
    · exact h.ap g q
    · omega
  refine ⟨sc_same ((f1.cell h.lt nQ).trans h.cl), ?_, ?_, ?_, f2.owns ho (fun g hg' q => ap' g hg' q), ap', ?_, ?_, h.inj, h.hQ⟩
  · rw [sc_other (neQ (by omega))]; exact (f1.cell h.lt nQ).trans h.cf
  · obtain ⟨v, c1, c2⟩ := h.ct
    exact ⟨v, by rw [sc_other (neQ (by omega))]; exact (f1.cell h.lt nQ).trans c1, c2⟩
  · simp only [World.frozen?_setCell]
    exact ⟨(f1.frozen h.lt nQ).trans h.fz.1, (f1.frozen h.lt nQ).trans h.fz.2.1, (f1.frozen h.lt nQ).trans h.fz.2.2⟩
  · exact fun j j1 j2 => ((h.pr j j1 j2).fr f1 (h.bk j j1 j2).2.2).fr f2 (h.bk j j1 j2).2.1
  · intro j j1 j2
    refine ⟨(h.bk j j1 j2).1, (h.bk j j1 j2).2.1, fun q => ?_⟩
    rcases hl _ q with q' | q'
    · exact (h.bk j j1 j2).2.2 q'
    · have := (h.pr j j1 j2).lt; omega
set_option maxRecDepth 100000 in
set_option maxHeartbeats 8000000 in
theorem comeI (w : World) (lo Q z : Nat) (lv : Value) (m : Nat) (kf : Nat → T) (B : Nat → Nat) (a : Nat) (h : Que w lo Q z lv m kf B a (tri m)) (ha : a ≤ tri m) (hm : m ≤ 12) (hlo : lo ≤ w.heap.size) (t : T) (ht : kf m = t) :
    Calls Tryz.prog 33 #[.pointer (some ⟨Q, z, none⟩), .agg #[.int .i64 t.c, .int .i64 t.m.x, .int .i64 t.m.y, .int .i64 t.m.d, .int .i64 t.m.e]] w fun r w' => r = .returned (.tuple #[]) ∧ ∃ lv' B', Que w' lo Q z lv' (m + 1) kf B' a (tri (m + 1)) ∧ (∀ j, j < tri m → B' j = B j) ∧ (∀ j, tri m ≤ j → j < tri (m + 1) → w.heap.size ≤ B' j) ∧ (∀ g, lv'.ownBlock = some g → lv.ownBlock = some g ∨ w.heap.size ≤ g) ∧ Fr (QS Q lv B a (tri m)) w w' := by
  obtain ⟨i0, hi0, hz0, hz1, hz2⟩ := info_parts infoT
  have bo := bel_one w (.cells #[.int .i64 t.c, .int .i64 t.m.x, .int .i64 t.m.y, .int .i64 t.m.d, .int .i64 t.m.e] 59)
  have HQ0 := Hid.mk' (h.below bo)
  have HF0 : Hid (Fr (QS Q lv B a (tri m)) w (w.alloc (.cells #[.int .i64 t.c, .int .i64 t.m.x, .int .i64 t.m.y, .int .i64 t.m.d, .int .i64 t.m.e] 59))) := Fr.of_below bo
  have HL0 := Hid.mk' (C5.box w 59 t)
  have hQw : Q < w.heap.size := h.lt
  have hlen : ((List.range m).map kf).length = m := by simp
  obtain ⟨la, lc, hlv, hout⟩ := out_of_owns h.own (by rw [hlen]; omega)
  rw [hlen] at hlv
  subst hlv
  have hgw : ∀ g, (Value.slice la m lc).ownBlock = some g → g < w.heap.size := fun g hg => (h.own.lt g hg).2
  have hBw : ∀ j, a ≤ j → j < tri m → B j < w.heap.size := fun j j1 j2 => (h.pr j j1 j2).lt
  have HGW := Hid.mk' hgw
  have HBW := Hid.mk' hBw
  have hml : (m : Int) ≤ 12 := by omega
  have c0 := (h.below bo).cl
  clear h hout hgw hBw
  go_enter Tryz.func33, Tryz.ntmps33
  go_wp2
  clear c0 bo
  generalize hw0 : w.alloc (.cells #[.int .i64 t.c, .int .i64 t.m.x, .int .i64 t.m.y, .int .i64 t.m.d, .int .i64 t.m.e] 59) = w0 at *
  have hs0 : w.heap.size ≤ w0.heap.size := HF0.out.size
  clear hw0
  go_loopw [11] (fun v wr => ∃ (i : Nat) (Bi : Nat → Nat), i ≤ m ∧ v = .int .i64 (i : Int) ∧ Que wr lo Q z (.slice la m lc) m kf Bi a (tri m + i) ∧ (∀ j, j < tri m → Bi j = B j) ∧ (∀ j, tri m ≤ j → j < tri m + i → w.heap.size < Bi j) ∧ Fr (QS Q (.slice la m lc) B a (tri m)) w wr ∧ C5 wr w.heap.size t) (fun v _ => m - (intOf v).toNat)
  case atStart => exact ⟨0, B, Nat.zero_le _, rfl, HQ0.out, fun _ _ => rfl, fun j j1 j2 => by omega, HF0.out, HL0.out⟩
  case round =>
    obtain ⟨i, Bi, hi, rfl, hQ, hB1, hB2, hF, hL⟩ := hrel
    have HB1 := Hid.mk' hB1
    have HB2 := Hid.mk' hB2
    have HF := Hid.mk' hF
    have HQ := Hid.mk' hQ
    have HLD := Hid.mk' hL
    have hsr : w.heap.size ≤ wr.heap.size := hF.size
    clear hB1 hB2
    by_cases hlt : i < m
    · have hil : (i : Int) < (m : Int) := by omega
      obtain ⟨la2, lc2, hlv2, hout2⟩ := out_of_owns hQ.own (by rw [hlen]; omega)
      rw [hlen] at hlv2
      obtain ⟨rfl, rfl⟩ : la = la2 ∧ lc = lc2 := by
        injection hlv2 with e1 e2 e3
        exact ⟨e1, e3⟩
      rcases hout2.1.2.2 with h0 | ⟨bb, off, rfl, hblt, hcl⟩
      · omega
      obtain ⟨g0, g1, g2, g3, g4⟩ := hcl i (by rw [hlen]; exact hlt)
      rw [lf_rng kf hlt] at g0 g1 g2 g3 g4
      obtain ⟨t1, ht1⟩ : ∃ t1, kf i = t1 := ⟨_, rfl⟩
      rw [ht1] at g0 g1 g2 g3 g4
      have be := bel_one wr (.cells #[.int .i64 t1.c, .int .i64 t1.m.x, .int .i64 t1.m.y, .int .i64 t1.m.d, .int .i64 t1.m.e] 59)
      have HS0 := Hid.mk' ((S11.mk (C5.box wr 59 t1) (hL.below be) (hQ.below be).cl).below (Below.refl _ _).drew)
      have hpr : prQ kf (tri m + i) = ⟨sprT t1 (M.both t1.m t.m), sprT t (M.both t1.m t.m), i, m⟩ := by
        unfold prQ
        rw [pq_tri m i hlt, ht1, ht]
      have HPR := Hid.mk' hpr
      have HC := fun (W : World) => sprOfI W t1 t
      generalize sprT t1 (M.both t1.m t.m) = u at HC HPR
      generalize sprT t (M.both t1.m t.m) = v at HC HPR
      have HQd := Hid.mk' ((hQ.below be).below (Below.refl _ _).drew)
      have HFd := Hid.mk' ((hF.next be).next (Below.refl _ _).drew)
      have HLd := Hid.mk' ((hL.below be).below (Below.refl _ _).drew)
      have hsd : w.heap.size ≤ (wr.alloc (.cells #[.int .i64 t1.c, .int .i64 t1.m.x, .int .i64 t1.m.y, .int .i64 t1.m.d, .int .i64 t1.m.e] 59)).drew.heap.size := HFd.out.size
      have hBd : ∀ j, a ≤ j → j < tri m + i → Bi j < wr.heap.size := fun j j1 j2 => (hQ.pr j j1 j2).lt
      have HBD := Hid.mk' hBd
      have hlg : ∀ g, (Value.slice (some ⟨bb, off, none⟩) m lc).ownBlock = some g → g < wr.heap.size := fun g hg => (hQ.own.lt g hg).2
      have HLG := Hid.mk' hlg
      clear hcl hout2 hlv2 hQ hF hL be hpr hBd hlg
      go_wp2_with fail
      clear g0 g1 g2 g3 g4
      have hS := HS0.out
      go_region_held3 (fun u => S11 u wr.heap.size w.heap.size Q z t1 t (.slice (some ⟨bb, off, none⟩) m lc)) (first | with_reducible exact hS | with_reducible exact S11.below hS b5 | with_reducible exact S11.below (S11.below hS b5) (bel_one _ _) | with_reducible exact hS8) (first | (go_at_call 72; refine (HC _).mono ?_; rintro e w5 ⟨rfl, b5⟩) | (go_at_call 71; have hP : PrAt (w5.alloc (.cells #[.int .i64 u.c, .int .i64 u.m.x, .int .i64 u.m.y, .int .i64 u.m.d, .int .i64 u.m.e, .int .i64 v.c, .int .i64 v.m.x, .int .i64 v.m.y, .int .i64 v.m.d, .int .i64 v.m.e, .int .i64 (i : Int), .int .i64 (m : Int), .pointer none] 108)) w5.heap.size (prQ kf (tri m + i)) none := (by rw [HPR.out]; exact PrAt.box w5 108 ⟨u, v, i, m⟩ none); have hsz5 := b5.size; refine (pushI _ lo Q z _ m kf Bi a (tri m + i) ((HQd.out.below b5).below (bel_one _ _)) (by omega) _ hP (by simp at hsz5; omega) (by simp at hsz5; omega) (fun q => by have := HLG.out _ q; simp at hsz5; omega) (fun j j1 j2 => by have := HBD.out j j1 j2; simp at hsz5; omega)).mono ?_; rintro e w8 ⟨rfl, hq8, hf8⟩; have hS8 : S11 w8 wr.heap.size w.heap.size Q z t1 t (.slice (some ⟨bb, off, none⟩) m lc) := S11.fr (S11.below (S11.below hS b5) (bel_one _ _)) hf8 (fun q => by rcases q with q | ⟨q1, q2⟩; (· omega); (· have := HBD.out (tri m + i - 1) (by omega) (by omega); omega)) (fun q => by rcases q with q | ⟨q1, q2⟩; (· omega); (· rcases Nat.lt_or_ge (tri m + i - 1) (tri m) with k | k; (· have := HB1.out _ k; have := HBW.out (tri m + i - 1) (by omega) k; omega); (· have := HB2.out _ k (by omega); omega))) hq8.cl))
      have hL8 : C5 w8 w.heap.size t := hS8.c5
      have hF8 : Fr (QS Q (.slice (some ⟨bb, off, none⟩) m lc) B a (tri m)) w w8 := ((HFd.out.next b5).next (bel_one _ _)).step hf8 (fun k hk q => by
        rcases q with q | ⟨q1, q2⟩
        · exact .inl q
        · rcases Nat.lt_or_ge (tri m + i - 1) (tri m) with k' | k'
          · by_cases e0 : i = 0
            · subst e0
              exact .inr (.inr ⟨by omega, by rw [q2]; exact HB1.out _ k'⟩)
            · omega
          · have := HB2.out _ k' (by omega)
            omega)
      have hs5 : w.heap.size < w5.heap.size := by have := b5.size; simp at this; omega
      have HQ8 := Hid.mk' hq8
      have HL8 := Hid.mk' hL8
      have HF8 := Hid.mk' hF8
      clear hS hS8 hq8 hf8 hL8 hF8 b5 HC hP hsz5
      go_wp2
      go_roundw
      case rel => exact ⟨i + 1, updB Bi (tri m + i) w5.heap.size, by omega, by go_num, HQ8.out, fun j hj => by
          unfold updB
          rw [if_neg (by omega)]
          exact HB1.out j hj, fun j j1 j2 => by
          unfold updB
          split
          · exact hs5
          · exact HB2.out j j1 (by omega), HF8.out, HL8.out⟩
      case measure => simp [intOf]; omega
    · have hie : i = m := by omega
      subst hie
      have hnl : ¬ (i : Int) < (i : Int) := by omega
      have bd : Below wr.heap.size wr wr.drew := (Below.refl _ _).drew
      have ba := bel_one wr.drew (.cells #[.int .i64 t.c, .int .i64 t.m.x, .int .i64 t.m.y, .int .i64 t.m.d, .int .i64 t.m.e] 59)
      have hQa := (hQ.below bd).below ba
      have c0 := hQ.cl
      have z0 := hQ.fz.1
      obtain ⟨l0, l1, l2, l3, l4⟩ := hL
      have hOa : ((wr.drew).alloc (.cells #[.int .i64 t.c, .int .i64 t.m.x, .int .i64 t.m.y, .int .i64 t.m.d, .int .i64 t.m.e] 59)).ownsRow lo 59 5 (.slice la i lc) i (cellsL ((List.range i).map kf)) := by
        have := hQa.own
        rwa [hlen] at this
      have hnQ : ¬ (Value.slice la i lc).ownBlock = some Q := fun q => hQ.ap Q q rfl
      have hQr : Q < wr.heap.size := hQ.lt
      have hnew := heap_alloc_new wr.drew (.cells #[.int .i64 t.c, .int .i64 t.m.x, .int .i64 t.m.y, .int .i64 t.m.d, .int .i64 t.m.e] 59)
      have HQa := Hid.mk' hQa
      have HFa := Hid.mk' ((HF.out.next bd).next ba)
      have HOA := Hid.mk' hOa
      have HNE := Hid.mk' hnew
      have hlor : lo ≤ wr.heap.size := Nat.le_trans hlo hsr
      have cA := hQa.cl
      have zA := hQa.fz.1
      have HCA := Hid.mk' cA
      have HZA := Hid.mk' zA
      clear hQ hF hQa hOa hnew bd ba cA zA
      go_wp2_with fail
      go_region_law (refine step_append_lies _ (by rfl) (.tmp 34) (.tmp 36) 46 (by rfl) lo 59 i0 _ 5 40 Tryz.underlying46 hi0 hz0 hz1 hz2 rfl (by omega) _ i (cellsL ((List.range i).map kf)) (by rfl) HOA.out ⟨wr.heap.size, 0, none⟩ 1 1 (cellsL [t]) (by rfl) (by rw [cellsL_length]; rfl) (by rw [cellsL_one]; exact World.news_of_block HNE.out) (one_cells _) (by omega) (by unfold maxLen; omega) (by omega) (by simp; omega) _ rfl ?_; intro g0 cap0 w9 hown hgrow hat hlt9; have c9 := (gb_cell (b := Q) (o := z) hgrow (by simp; omega) hnQ).trans HCA.out; have z9 := (gb_frozen (b := Q) (o := z) hgrow (by simp; omega) hnQ).trans HZA.out)
      all_goals (
        clear c9 z9 l0 l1 l2 l3 l4 c0 z0
        have HOWN := Hid.mk' hown
        have HGR := Hid.mk' hgrow
        have HAT := Hid.mk' hat
        clear hown hgrow hat hlt9
        go_wp2
        go_end0
        have hl' : ∀ g, (Value.slice (some ⟨g0, 0, none⟩) (i + 1) cap0).ownBlock = some g → (Value.slice la i lc).ownBlock = some g ∨ g = wr.heap.size + 1 := fun g hg => by
          have e : g0 = g := by simpa [Value.ownBlock] using hg
          subst e
          exact HAT.out.imp id (fun q => by rw [q]; simp)
        have ho : w9.ownsRow lo 59 5 (.slice (some ⟨g0, 0, none⟩) (i + 1) cap0) ((List.range (i + 1)).map kf).length (cellsL ((List.range (i + 1)).map kf)) := by
          have h := HOWN.out
          rw [← ht, ← cellsL_append, ← rng_succ] at h
          rw [show ((List.range (i + 1)).map kf).length = i + 1 by simp]
          exact h
        refine ⟨rfl, .slice (some ⟨g0, 0, none⟩) (i + 1) cap0, Bi, HQa.out.lead HGR.out rfl ho (fun g hg => by simpa using hl' g hg), HB1.out, fun j j1 j2 => Nat.le_of_lt (HB2.out j j1 j2), fun g hg => (hl' g hg).imp id (fun q => by omega), ?_⟩
        exact (HFa.out.grown HGR.out (fun g e hk => .inr (.inl e))).set (fun _ => .inl rfl))
end Go.Proofs.YtehlfifplhnceaaGreat
