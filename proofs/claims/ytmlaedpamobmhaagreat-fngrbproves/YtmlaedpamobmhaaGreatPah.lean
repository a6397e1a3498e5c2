/-
  What the exact laws lean on besides: terms in memory behind marks elsewhere.
  More of chapter 3's model: an operator of one term, the number of a monomial, so many times an operator.
  Operators as lists: sums, differences, so many times, the most that is counted.
-/
import Derived.Test.YtmlaedpamobmhaaGreatPae
import Derived.Test.YtmlaedpamobmhaaGreatPag
import Derived.Deep.RegionHeld3
import Derived.Test.YtmlaedpamobmhaaGreatPaf
namespace Go.Proofs.YtmlaedpamobmhaaGreat
open Go.RowKit
set_option linter.unusedVariables false

theorem Wr.grown {w w' : World} {a : Option Addr} {n : Nat} {f : Nat → T} {row : Option Nat} (h : Wr w a n f) (hg : w.grownBy w' row) (hne : n = 0 ∨ ∀ b off, a = some ⟨b, off, none⟩ → some b ≠ row) : Wr w' a n f := by
  rcases h with h0 | ⟨g, off, N, F, rfl, hR, hN, hF⟩
  · exact .inl h0
  · rcases hne with h0 | hne
    · exact .inl h0
    · exact .inr ⟨g, off, N, F, rfl, hR.of_block (hg.block g hR.lt (hne g off rfl)), hN, hF⟩
theorem Own.wr {w : World} {g n : Nat} {f : Nat → T} (h : Own w g n f) : Wr w (some ⟨g, 0, none⟩) n f :=
  .inr ⟨g, 0, n * 5, cf f, rfl, h, by omega, fun j hj => by rw [Nat.zero_add]⟩
theorem Wr.rd {w : World} {a : Option Addr} {n cap : Nat} {f : Nat → T} (h : Wr w a n f) (hc : n ≤ cap) (hn : n * 40 ≤ 140737488351232) : Rd w a n cap f := by
  refine ⟨hc, hn, ?_⟩
  rcases h with h0 | ⟨g, off, N, F, rfl, hR, hN, hF⟩
  · exact .inl h0
  · have hcell : ∀ j, j < n * 5 → w.cell? ⟨g, off + j, none⟩ = some (cf f j) := fun j hj => by rw [hR.cell (by omega), hF j hj]
    refine .inr ⟨g, off, rfl, hR.lt, fun i hi => ?_⟩
    have e1 : off + i * 5 + 1 = off + (i * 5 + 1) := by omega
    have e2 : off + i * 5 + 2 = off + (i * 5 + 2) := by omega
    have e3 : off + i * 5 + 3 = off + (i * 5 + 3) := by omega
    have e4 : off + i * 5 + 4 = off + (i * 5 + 4) := by omega
    exact ⟨by rw [hcell _ (by omega), cf0], by rw [e1, hcell _ (by omega), cf1], by rw [e2, hcell _ (by omega), cf2], by rw [e3, hcell _ (by omega), cf3], by rw [e4, hcell _ (by omega), cf4]⟩
/-- Where a slice of terms lies: below a block number. -/
def Under (a : Option Addr) (n B : Nat) : Prop := n = 0 ∨ ∀ b off, a = some ⟨b, off, none⟩ → b < B
/-- .. from a block number on. -/
def From (a : Option Addr) (n B : Nat) : Prop := n = 0 ∨ ∀ b off, a = some ⟨b, off, none⟩ → B ≤ b
theorem Rd.under {w : World} {a : Option Addr} {n cap : Nat} {f : Nat → T} (h : Rd w a n cap f) : Under a n w.heap.size := by
  rcases h.2.2 with h0 | ⟨b, off, rfl, hlt, _⟩
  · exact .inl h0
  · exact .inr fun b' off' e => by cases e; exact hlt
theorem Out.from {lo : Nat} {w : World} {a : Option Addr} {cap : Nat} {L : List T} (h : Out lo w a cap L) : From a L.length lo := by
  rcases h.2.2 with h0 | ⟨g, off, rfl, hlo⟩
  · exact .inl h0
  · exact .inr fun b' off' e => by cases e; exact hlo
theorem Under.off {a : Option Addr} {n B X : Nat} (h : Under a n B) (hX : B ≤ X) : n = 0 ∨ ∀ b off, a = some ⟨b, off, none⟩ → some b ≠ some X := by
  rcases h with h0 | h
  · exact .inl h0
  · exact .inr fun b off e => by have := h b off e; simp; omega
theorem From.off {a : Option Addr} {n B X : Nat} (h : From a n B) (hX : X < B) : n = 0 ∨ ∀ b off, a = some ⟨b, off, none⟩ → some b ≠ some X := by
  rcases h with h0 | h
  · exact .inl h0
  · exact .inr fun b off e => by have := h b off e; simp; omega
theorem Under.mono {a : Option Addr} {n B B' : Nat} (h : Under a n B) (hB : B ≤ B') : Under a n B' := by
  rcases h with h0 | h
  · exact .inl h0
  · exact .inr fun b off e => Nat.lt_of_lt_of_le (h b off e) hB
/-- Two slices that lie apart: a mark in one is none in the other. -/
theorem apart {a c : Option Addr} {n m B : Nat} (h : Under a n B) (k : From c m B) (hm : m ≠ 0) {w : World} {f : Nat → T} (hw : Wr w c m f) : n = 0 ∨ ∀ b off, a = some ⟨b, off, none⟩ → some b ≠ c.map (·.block) := by
  rcases h with h0 | h
  · exact .inl h0
  · rcases k with k0 | k
    · exact absurd k0 hm
    · rcases hw with w0 | ⟨g, off, N, F, rfl, _⟩
      · exact absurd w0 hm
      · exact .inr fun b off' e => by
          have h1 := h b off' e
          have h2 := k g off rfl
          simp
          omega
theorem polAdd_len (f : Nat → T) (la : Nat) (g : Nat → T) (lb : Nat) : (polAdd f la g lb).1.length ≤ 400 := by
  unfold polAdd
  split
  · rename_i h; exact h.2.2
  · simp
end Go.Proofs.YtmlaedpamobmhaaGreat
namespace Go.Proofs.YtmlaedpamobmhaaGreat
open Go.RowKit
set_option linter.unusedVariables false

/-- k terms, each c times. -/
def scT (c : Int) (f : Nat → T) (k : Nat) : List T := (List.range k).map fun i => ⟨c * (f i).c % 101, (f i).m⟩
theorem scT_len (c : Int) (f : Nat → T) (k : Nat) : (scT c f k).length = k := by simp [scT]
theorem scT_succ (c : Int) (f : Nat → T) (k : Nat) : scT c f (k + 1) = scT c f k ++ [⟨c * (f k).c % 101, (f k).m⟩] := by simp [scT, List.range_succ]
set_option maxRecDepth 100000 in
set_option maxHeartbeats 4000000 in
theorem l3ScaleS (w : World) (c : Int) (a : Option Addr) (n cap : Nat) (f : Nat → T) (h : Rd w a n cap f) (hc0 : 0 ≤ c) (hc1 : c ≤ 100) (hl : n ≤ 1000000) (hcf : ∀ i, i < n → 0 ≤ (f i).c ∧ (f i).c ≤ 100) :
    Calls Tryz.prog 150 #[.int .i64 c, .slice a n cap] w fun r w' => ∃ v, r = .returned v ∧ Below w.heap.size w w' ∧ w'.ownsRow w.heap.size 54 5 v (if c = 0 then 0 else n) (cellsL (scT c f (if c = 0 then 0 else n))) := by
  obtain ⟨i0, hi0, hz0, hz1, hz2⟩ := info_parts infoT
  obtain ⟨h1, h2, h3⟩ := h
  have hn : (n : Int) ≤ 1000000 := by omega
  by_cases hz : c = 0
  · rw [if_pos hz]
    subst hz
    go_enter Tryz.func150, Tryz.ntmps150
    go_wp2
    go_loopw [5, 6] (fun v i wr => v = .slice (some ⟨w.heap.size, 0, none⟩) 0 0 ∧ i = .int .i64 0 ∧ wr = w.alloc (.cells #[] 54)) (fun _ _ _ => 0)
    case atStart => exact ⟨rfl, rfl, rfl⟩
    case round =>
      obtain ⟨rfl, rfl, rfl⟩ := hrel
      by_cases hn0 : n = 0
      · subst hn0
        go_wp2
        go_ret
        exact ⟨_, rfl, (Below.refl _ _).alloc (Nat.le_refl _) _, owns_none w _ (Nat.le_refl _)⟩
      · have hnp : (0 : Int) < (n : Int) := by omega
        have dn : decide ((0 : Int) < (n : Int)) = true := decide_eq_true hnp
        go_wp2
        go_ret
        exact ⟨_, rfl, (Below.refl _ _).alloc (Nat.le_refl _) _, owns_none w _ (Nat.le_refl _)⟩
  · rw [if_neg hz]
    have hcb : (c != 0) = true := by simp [hz]
    clear hz
    go_enter Tryz.func150, Tryz.ntmps150
    go_wp2
    go_loopw [5, 6] (fun v i wr => ∃ k : Nat, k ≤ n ∧ i = .int .i64 k ∧ Below w.heap.size w wr ∧ wr.ownsRow w.heap.size 54 5 v k (cellsL (scT c f k))) (fun _ i _ => n - (intOf i).toNat)
    case atStart => exact ⟨0, Nat.zero_le _, rfl, (Below.refl _ _).alloc (Nat.le_refl _) _, owns_none w _ (Nat.le_refl _)⟩
    case round =>
      obtain ⟨k, hk, rfl, hB, hown⟩ := hrel
      by_cases hlt : k < n
      · rcases h3 with h0 | ⟨b, off, rfl, hblt, hcl⟩
        · omega
        have hkn : (k : Int) < (n : Int) := by omega
        have hbr : b < wr.heap.size := Nat.lt_of_lt_of_le hblt hB.size
        obtain ⟨g0, g1, g2, g3, g4⟩ := (hcl k hlt).below hB hblt
        obtain ⟨cf1, cf2⟩ := hcf k hlt
        obtain ⟨mb1, mb2⟩ := mul_bd hc0 hc1 cf1 cf2
        have HV : Hid ((IntKind.i64.wrap (c * (f k).c)).tmod 101 = c * (f k).c % 101) := by
          show _ = _
          rw [show IntKind.i64.wrap (c * (f k).c) = c * (f k).c by rw [IntKind.wrap_i64]; omega, Int.tmod_eq_emod_of_nonneg mb1]
        have HO := Hid.mk' hown
        clear hcl hcf hown
        go_wp2_with fail
        go_region_held3 (fun u => u.cell? ⟨b, off + k * 5, none⟩ = some (.int .i64 (f k).c) ∧ u.cell? ⟨b, off + k * 5 + 1, none⟩ = some (.int .i64 (f k).m.x) ∧ u.cell? ⟨b, off + k * 5 + 2, none⟩ = some (.int .i64 (f k).m.y) ∧ u.cell? ⟨b, off + k * 5 + 3, none⟩ = some (.int .i64 (f k).m.d) ∧ u.cell? ⟨b, off + k * 5 + 4, none⟩ = some (.int .i64 (f k).m.e)) (first | go_keep | (refine ⟨?_, ?_, ?_, ?_, ?_⟩ <;> (rw [hgrow.cell_far _ (by simp; omega) (by intro hh; exact absurd (HO.out.lt b hh.symm).1 (by omega))]; go_simp))) ((refine step_append_lies _ (by rfl) (.tmp 18) (.tmp 33) 35 (by rfl) w.heap.size 54 i0 _ 5 40 Tryz.underlying35 hi0 hz0 hz1 hz2 rfl (by omega) _ k (cellsL (scT c f k)) (by rfl) (by first | exact HO.out.alloc _ | exact (owns_below HO.out (Below.refl _ _).drew).alloc _) ⟨wr.heap.size, 0, none⟩ 1 1 (cellsL [⟨c * (f k).c % 101, (f k).m⟩]) (by rfl) (by rw [cellsL_length]; rfl) (by rw [cellsL_one]; simp only; rw [← HV.out]; exact World.news_of_block (heap_alloc_new wr _)) (one_cells _) (by omega) (by unfold maxLen; omega) (by omega) (by have := hB.size; simp; omega) _ (by rfl) ?_; intro g0 cap0 w1 hown1 hgrow hat hlt1))
        have HB := Hid.mk' (((hB.alloc hB.size _).drew).grown hgrow (Nat.le_trans hB.size (by simp)) (fun j hj => (HO.out.lt j hj).1))
        have HP := Hid.mk' hown1
        clear hown1 hgrow hat hlt1 HO
        go_wp2
        go_roundw
        case rel => exact ⟨k + 1, by omega, by go_num, HB.out, by rw [scT_succ, cellsL_append]; exact HP.out⟩
        case measure => simp [intOf]; omega
      · have hkn : k = n := by omega
        subst hkn
        have HO := Hid.mk' hown
        clear hown hcf
        go_wp2
        go_ret
        exact ⟨_, rfl, hB, HO.out⟩
theorem lf_scT (c : Int) (f : Nat → T) (n i : Nat) (h : i < n) : lf (scT c f n) i = ⟨c * (f i).c % 101, (f i).m⟩ := by
  simp [lf, scT, List.getD, List.getElem?_map, List.getElem?_range h]
/-- what is added for a difference. -/
def negT (g : Nat → T) (lb : Nat) : Nat → T := lf (scT 100 g lb)
/-- PolSub. -/
def polSub (f : Nat → T) (la : Nat) (g : Nat → T) (lb : Nat) : List T × Bool :=
  if polOk la f = true ∧ polOk lb g = true ∧ (addT f la (negT g lb) lb 0 0).length ≤ 400 then (addT f la (negT g lb) lb 0 0, true) else ([], false)
theorem polSub_len (f : Nat → T) (la : Nat) (g : Nat → T) (lb : Nat) : (polSub f la g lb).1.length ≤ 400 := by
  unfold polSub
  split
  · rename_i h; exact h.2.2
  · simp
theorem polOk_m {n : Nat} {f : Nat → T} (h : polOk n f = true) : ∀ i, i < n → (f i).m.ok = true := by
  intro i hi
  simp only [polOk, decide_eq_true_eq] at h
  have := h.2 i hi
  simp only [okAt, Bool.and_eq_true, decide_eq_true_eq] at this
  exact this.1.2
/-- which term is the greatest, of those from the i-th on and the k-th. -/
def leadFrom (o : Int) (f : Nat → T) : Nat → Nat → Nat → Nat
  | 0, _, k => k
  | u + 1, i, k => if 0 < M.ord o (f i).m (f k).m then leadFrom o f u (i + 1) i else leadFrom o f u (i + 1) k
def leadAt (o : Int) (f : Nat → T) (n : Nat) : Nat := leadFrom o f (n - 1) 1 0
set_option maxHeartbeats 4000000 in
theorem l3LeadS (w : World) (o : Int) (a : Option Addr) (n cap : Nat) (f : Nat → T) (h : Rd w a n cap f) (h0 : 0 < n) (hm : ∀ i, i < n → (f i).m.ok = true) :
    Calls Tryz.prog 70 #[.int .i64 o, .slice a n cap] w fun r w' => r = .returned (.agg #[.int .i64 (f (leadAt o f n)).c, .int .i64 (f (leadAt o f n)).m.x, .int .i64 (f (leadAt o f n)).m.y, .int .i64 (f (leadAt o f n)).m.d, .int .i64 (f (leadAt o f n)).m.e]) ∧ Below w.heap.size w w' := by
  obtain ⟨h1, h2, h3⟩ := h
  have HM := Hid.mk' hm
  clear hm
  have hn : (n : Int) ≤ 140737488351232 := by omega
  obtain ⟨b, off, rfl, hblt, hcl⟩ := h3.resolve_left (by omega)
  have HCL := Hid.mk' hcl
  clear h3 hcl
  go_enter Tryz.func70, Tryz.ntmps70
  go_wp2
  go_loopw [5, 6] (fun kk ii wr => ∃ i k : Nat, 1 ≤ i ∧ i ≤ n ∧ k < n ∧ ii = .int .i64 i ∧ kk = .int .i64 k ∧ Below w.heap.size w wr ∧ (∀ j, j < 5 → wr.cell? ⟨w.heap.size, j, none⟩ = some (.int .i64 0)) ∧ (∀ j, wr.frozen? ⟨w.heap.size, j, none⟩ = false) ∧ w.heap.size < wr.heap.size ∧ Hid (leadFrom o f (n - i) i k = leadAt o f n)) (fun _ ii _ => n - (intOf ii).toNat)
  case atStart =>
    refine ⟨1, 0, Nat.le_refl _, h0, h0, rfl, rfl, (Below.refl _ _).alloc (Nat.le_refl _) _, fun j hj => ?_, fun j => by rw [World.frozen?_alloc_at _ _ _ _ rfl], by simp, rfl⟩
    rw [World.cell?_alloc_at _ _ _ _ rfl]
    have h5 : j = 0 ∨ j = 1 ∨ j = 2 ∨ j = 3 ∨ j = 4 := by omega
    rcases h5 with rfl | rfl | rfl | rfl | rfl <;> rfl
  case round =>
    obtain ⟨i, k, hi1, hi, hk, rfl, rfl, hB, hz, hfz, hsz, HL⟩ := hrel
    have HZ := Hid.mk' hz
    have HFZ := Hid.mk' hfz
    clear hz hfz
    have hkn : (k : Int) < (n : Int) := by omega
    by_cases hlt : i < n
    · have hin : (i : Int) < (n : Int) := by omega
      have hbr : b < wr.heap.size := Nat.lt_of_lt_of_le hblt hB.size
      have ne := Ext.there wr
      have hci := (HCL.out i hlt).below hB hblt
      have hck := (HCL.out k hk).below hB hblt
      have s1 : ∀ u : Ext wr, u.1.cell? ⟨b, off + i * 5 + 1, none⟩ = some (.int .i64 (f i).m.x) := fun u => (u.cell hbr).trans hci.2.1
      have s2 : ∀ u : Ext wr, u.1.cell? ⟨b, off + i * 5 + 2, none⟩ = some (.int .i64 (f i).m.y) := fun u => (u.cell hbr).trans hci.2.2.1
      have s3 : ∀ u : Ext wr, u.1.cell? ⟨b, off + i * 5 + 3, none⟩ = some (.int .i64 (f i).m.d) := fun u => (u.cell hbr).trans hci.2.2.2.1
      have s4 : ∀ u : Ext wr, u.1.cell? ⟨b, off + i * 5 + 4, none⟩ = some (.int .i64 (f i).m.e) := fun u => (u.cell hbr).trans hci.2.2.2.2
      have t1 : ∀ u : Ext wr, u.1.cell? ⟨b, off + k * 5 + 1, none⟩ = some (.int .i64 (f k).m.x) := fun u => (u.cell hbr).trans hck.2.1
      have t2 : ∀ u : Ext wr, u.1.cell? ⟨b, off + k * 5 + 2, none⟩ = some (.int .i64 (f k).m.y) := fun u => (u.cell hbr).trans hck.2.2.1
      have t3 : ∀ u : Ext wr, u.1.cell? ⟨b, off + k * 5 + 3, none⟩ = some (.int .i64 (f k).m.d) := fun u => (u.cell hbr).trans hck.2.2.2.1
      have t4 : ∀ u : Ext wr, u.1.cell? ⟨b, off + k * 5 + 4, none⟩ = some (.int .i64 (f k).m.e) := fun u => (u.cell hbr).trans hck.2.2.2.2
      have HO : Hid (o = 3 → (f i).m.ok = true ∧ (f k).m.ok = true) := fun _ => ⟨HM.out i hlt, HM.out k hk⟩
      have keep : ∀ u : Ext wr, (∀ j, j < 5 → u.1.cell? ⟨w.heap.size, j, none⟩ = some (.int .i64 0)) ∧ (∀ j, u.1.frozen? ⟨w.heap.size, j, none⟩ = false) ∧ w.heap.size < u.1.heap.size := fun u => ⟨fun j hj => (u.cell hsz).trans (HZ.out j hj), fun j => (u.2.frozen (p := ⟨w.heap.size, j, none⟩) hsz).trans (HFZ.out j), Nat.lt_of_lt_of_le hsz u.2.size⟩
      have KP := Hid.mk' keep
      clear hci hck keep
      by_cases hq : 0 < M.ord o (f i).m (f k).m
      · have dq : decide (0 < M.ord o ⟨(f i).m.x, (f i).m.y, (f i).m.d, (f i).m.e⟩ ⟨(f k).m.x, (f k).m.y, (f k).m.d, (f k).m.e⟩) = true := decide_eq_true hq
        have HN : Hid (leadFrom o f (n - (i + 1)) (i + 1) i = leadAt o f n) := by
          show _ = _
          rw [← HL.out, show n - i = (n - (i + 1)) + 1 by omega, leadFrom, if_pos hq]
        clear hq HL
        go_wp2_with fail
        refine wp_region_ext (by kernel_rfl) (by kernel_rfl) ?_
        repeat (go_big_quiet_step (first | (go_at_call 100; exact ext_grows (ordS _ _ _ _ _ _ _ _ _ _ HO.out))))
        refine wpQuiet_nil ?_
        rintro _ ⟨u, rfl⟩
        go_wp2
        go_roundw
        case rel => exact ⟨i + 1, i, by omega, by omega, hlt, by go_num, by go_num, hB.trans (u.2.mono hB.size), (KP.out u).1, (KP.out u).2.1, (KP.out u).2.2, HN⟩
        case measure => simp [intOf]; omega
      · have dq : decide (0 < M.ord o ⟨(f i).m.x, (f i).m.y, (f i).m.d, (f i).m.e⟩ ⟨(f k).m.x, (f k).m.y, (f k).m.d, (f k).m.e⟩) = false := decide_eq_false hq
        have HN : Hid (leadFrom o f (n - (i + 1)) (i + 1) k = leadAt o f n) := by
          show _ = _
          rw [← HL.out, show n - i = (n - (i + 1)) + 1 by omega, leadFrom, if_neg hq]
        clear hq HL
        go_wp2_with fail
        refine wp_region_ext (by kernel_rfl) (by kernel_rfl) ?_
        repeat (go_big_quiet_step (first | (go_at_call 100; exact ext_grows (ordS _ _ _ _ _ _ _ _ _ _ HO.out))))
        refine wpQuiet_nil ?_
        rintro _ ⟨u, rfl⟩
        go_wp2
        go_roundw
        case rel => exact ⟨i + 1, k, by omega, by omega, hk, by go_num, by go_num, hB.trans (u.2.mono hB.size), (KP.out u).1, (KP.out u).2.1, (KP.out u).2.2, HN⟩
        case measure => simp [intOf]; omega
    · have hkl : Hid (k = leadAt o f n) := by
        show _ = _
        rw [← HL.out, show n - i = 0 by omega]; rfl
      obtain ⟨g0, g1, g2, g3, g4⟩ := (HCL.out k hk).below hB hblt
      have z0 := HZ.out 0 (by omega)
      have z1 := HZ.out 1 (by omega)
      have z2 := HZ.out 2 (by omega)
      have z3 := HZ.out 3 (by omega)
      have z4 := HZ.out 4 (by omega)
      have fz := HFZ.out
      have hne : ¬ b = w.heap.size := by omega
      clear HL
      go_wp2
      refine bodyPost_ret (v := .agg #[.int .i64 (f k).c, .int .i64 (f k).m.x, .int .i64 (f k).m.y, .int .i64 (f k).m.d, .int .i64 (f k).m.e]) (by simp [results, Tryz.results70, go_sem, *]) rfl ⟨by rw [← hkl.out], ?_⟩
      exact bel_s5 hB (Nat.le_refl _) _ _ _ _ _
end Go.Proofs.YtmlaedpamobmhaaGreat
namespace Go.Proofs.YtmlaedpamobmhaaGreat
open Go.RowKit
set_option linter.unusedVariables false

/-- a slice of terms, as a list. -/
def RL (w : World) (a : Option Addr) (c : Nat) (L : List T) : Prop := Rd w a L.length c (lf L)
theorem RL.below {w w' : World} {a : Option Addr} {c : Nat} {L : List T} (h : RL w a c L) (hb : Below w.heap.size w w') : RL w' a c L := Rd.below h hb
theorem lf_eq {L : List T} {i : Nat} (h : i < L.length) : lf L i = L[i] := by unfold lf; rw [List.getD_eq_getElem?_getD, List.getElem?_eq_getElem h]; rfl
theorem list_of {w : World} {a : Option Addr} {n cap : Nat} {f : Nat → T} (h : Rd w a n cap f) : ∃ L : List T, n = L.length ∧ RL w a cap L := by
  refine ⟨(List.range n).map f, by simp, ?_⟩
  have e : ((List.range n).map f).length = n := by simp
  have hf : ∀ i, i < n → lf ((List.range n).map f) i = f i := fun i hi => by rw [lf_eq (by simpa using hi)]; simp
  unfold RL
  rw [e]
  refine ⟨h.1, h.2.1, ?_⟩
  rcases h.2.2 with h0 | ⟨b, off, he, hlt, hc⟩
  · exact .inl h0
  · exact .inr ⟨b, off, he, hlt, fun i hi => by rw [hf i hi]; exact hc i hi⟩
def okL (L : List T) : Bool := polOk L.length (lf L)
theorem okL_falls {L : List T} (h : okL L = true) : L.length ≤ 400 ∧ Falls L := by
  have hF := fl_of_ok h
  have hl : L.length ≤ 400 := by unfold okL at h; simp only [polOk, decide_eq_true_eq] at h; exact h.1
  refine ⟨hl, List.pairwise_iff_getElem.2 (fun i j hi hj hij => ?_), fun t ht => ?_⟩
  · have := hF.1 i j hij hj
    rwa [lf_eq hi, lf_eq hj] at this
  · obtain ⟨i, hi, rfl⟩ := List.mem_iff_getElem.1 ht
    have := hF.2 i hi
    rwa [lf_eq hi] at this
theorem okL_of {L : List T} (hl : L.length ≤ 400) (h : Falls L) : okL L = true := by
  unfold okL polOk
  rw [decide_eq_true_eq]
  refine ⟨hl, fun i hi => ?_⟩
  have h1 := h.2 (L[i]) (List.getElem_mem hi)
  simp only [okAt, Bool.and_eq_true, Bool.or_eq_true, decide_eq_true_eq]
  rw [lf_eq hi]
  refine ⟨⟨h1.2, h1.1⟩, ?_⟩
  by_cases h0 : i = 0
  · exact .inl h0
  · refine .inr ?_
    have hi1 : i - 1 < L.length := by omega
    rw [lf_eq hi1]
    exact (ord_pos (h.2 _ (List.getElem_mem hi1)).1 h1.1).2 ((List.pairwise_iff_getElem.1 h.1) (i - 1) i hi1 hi (by omega))
theorem okL_nil : okL [] = true := okL_of (by simp) falls_nil
/-! sums -/
theorem addL_len (L K : List T) : (addL L K).length ≤ L.length + K.length := by have := addT_len (lf L) L.length (lf K) K.length 0 0; simpa [addL] using this
def addV (L K : List T) : List T × Bool := polAdd (lf L) L.length (lf K) K.length
theorem addV_ok {L K : List T} (hL : okL L = true) (hK : okL K = true) (h : (addL L K).length ≤ 400) : addV L K = (addL L K, true) := if_pos ⟨hL, hK, h⟩
theorem coef_nil (m : M) : coef [] m = 0 := rfl
/-! so many times -/
def scL (c : Int) (L : List T) : List T := scT c (lf L) L.length
theorem scL_len (c : Int) (L : List T) : (scL c L).length = L.length := scT_len _ _ _
theorem scL_map (c : Int) (L : List T) : scL c L = L.map (fun t => ⟨c * t.c % 101, t.m⟩) := by
  refine List.ext_getElem (by simp [scL_len]) (fun i h1 h2 => ?_)
  have hi : i < L.length := by rw [scL_len] at h1; exact h1
  rw [← lf_eq h1, scL, lf_scT _ _ _ _ hi, lf_eq hi]
  simp
theorem scL_falls {c : Int} {L : List T} (c1 : 1 ≤ c) (c2 : c ≤ 100) (h : Falls L) : Falls (scL c L) := by
  rw [scL_map]
  refine ⟨by rw [List.pairwise_map]; exact h.1, fun t ht => ?_⟩
  obtain ⟨s, hs, rfl⟩ := List.mem_map.1 ht
  have hr := h.2 s hs
  have hne := fMul_ne (a := c) (b := s.c) (by omega) (by omega) (by omega) (by omega)
  rw [fMul_in (by omega) c2 (by omega) hr.2.2] at hne
  exact ⟨hr.1, by show 1 ≤ c * s.c % 101; omega, by show c * s.c % 101 ≤ 100; omega⟩
theorem scL_coef (c : Int) (m : M) : ∀ L : List T, coef (scL c L) m = c * coef L m % 101 := by
  intro L
  rw [scL_map]
  induction L with
  | nil => simp [coef]
  | cons t r ih =>
    rw [List.map_cons, coef, coef]
    split
    · rfl
    · exact ih
/-! differences -/
def subL (L K : List T) : List T := addL L (scL 100 K)
def subV (L K : List T) : List T × Bool := polSub (lf L) L.length (lf K) K.length
theorem subT_is (L K : List T) : addT (lf L) L.length (negT (lf K) K.length) K.length 0 0 = subL L K := by
  unfold subL addL
  rw [scL_len]
  rfl
theorem subV_ok {L K : List T} (hL : okL L = true) (hK : okL K = true) (h : (subL L K).length ≤ 400) : subV L K = (subL L K, true) := by
  unfold subV polSub
  rw [subT_is]
  exact if_pos ⟨hL, hK, h⟩
theorem subV_case (L K : List T) : subV L K = ([], false) ∨ (okL L = true ∧ okL K = true ∧ (subL L K).length ≤ 400 ∧ subV L K = (subL L K, true)) := by
  by_cases h : okL L = true ∧ okL K = true ∧ (subL L K).length ≤ 400
  · exact .inr ⟨h.1, h.2.1, h.2.2, subV_ok h.1 h.2.1 h.2.2⟩
  · refine .inl ?_
    unfold subV polSub
    rw [subT_is]
    exact if_neg h
theorem subL_len (L K : List T) : (subL L K).length ≤ L.length + K.length := by have := addL_len L (scL 100 K); rw [scL_len] at this; exact this
theorem subL_facts {L K : List T} (hL : Falls L) (hK : Falls K) : Falls (subL L K) ∧ ∀ m, coef (subL L K) m = (coef L m + 100 * coef K m % 101) % 101 := by
  have h := addL_facts hL (scL_falls (c := 100) (by omega) (by omega) hK)
  refine ⟨h.1, fun m => ?_⟩
  show coef (addL L (scL 100 K)) m = _
  rw [h.2, scL_coef]
theorem sub_self {L : List T} (hL : Falls L) : subL L L = [] := by
  have h1 := subL_facts hL hL
  refine falls_one h1.1 falls_nil (fun m _ => ?_)
  have r1 := coef_range hL m
  rw [h1.2, coef_nil]
  omega
theorem sub_nil_iff {L K : List T} (hL : Falls L) (hK : Falls K) : subL L K = [] ↔ L = K := by
  constructor
  · intro h
    have h1 := subL_facts hL hK
    refine falls_one hL hK (fun m _ => ?_)
    have h2 := h1.2 m
    rw [h, coef_nil] at h2
    have r1 := coef_range hL m
    have r2 := coef_range hK m
    omega
  · intro h
    rw [h]
    exact sub_self hK
/-- whether lists are the same, as it is looked at. -/
def sq (L K : List T) : Bool := termsEq L.length (lf L) K.length (lf K)
end Go.Proofs.YtmlaedpamobmhaaGreat
