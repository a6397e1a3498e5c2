/-
  What the exact laws lean on besides: terms in memory behind marks elsewhere.
  More of chapter 3's model: an operator of one term, the number of a monomial, so many times an operator.
  What the functions of the program's chapter 3 return: whether terms are an operator, an operator of one term, the number of a monomial.
-/
import Derived.Test.YtkcmamepoplcdaaGreatDoorGae
import Derived.Test.YtkcmamepoplcdaaGreatDoorGaj
import Derived.Deep.RegionHeld3
namespace Go.Proofs.YtkcmamepoplcdaaGreatDoor
open Go.RowKit
set_option linter.unusedVariables false

theorem termsEq_same (n : Nat) (f : Nat → T) : termsEq n f n f = true := by
  simp only [termsEq, decide_eq_true_eq]
  exact ⟨trivial, fun i _ => T.eqB_iff.2 rfl⟩
theorem Wr.grown {w w' : World} {a : Option Addr} {n : Nat} {f : Nat → T} {row : Option Nat} (h : Wr w a n f) (hg : w.grownBy w' row) (hne : n = 0 ∨ ∀ b off, a = some ⟨b, off, none⟩ → some b ≠ row) : Wr w' a n f := by
  rcases h with h0 | ⟨g, off, N, F, rfl, hR, hN, hF⟩
  · exact .inl h0
  · rcases hne with h0 | hne
    · exact .inl h0
    · exact .inr ⟨g, off, N, F, rfl, hR.of_block (hg.block g hR.lt (hne g off rfl)), hN, hF⟩
theorem Own.wr {w : World} {g n : Nat} {f : Nat → T} (h : Own w g n f) : Wr w (some ⟨g, 0, none⟩) n f :=
  .inr ⟨g, 0, n * 5, cf f, rfl, h, by omega, fun j hj => by rw [Nat.zero_add]⟩
theorem Wr.rd {w : World} {a : Option Addr} {n cap : Nat} {f : Nat → T} (h : Wr w a n f) (hc : n ≤ cap) (hn : n * 40 ≤ 140737488351232) : Rd w a n cap f := by
  refine ⟨hc, hn, ?_⟩
  rcases h with h0 | ⟨g, off, N, F, rfl, hR, hN, hF⟩
  · exact .inl h0
  · have hcell : ∀ j, j < n * 5 → w.cell? ⟨g, off + j, none⟩ = some (cf f j) := fun j hj => by rw [hR.cell (by omega), hF j hj]
    refine .inr ⟨g, off, rfl, hR.lt, fun i hi => ?_⟩
    have e1 : off + i * 5 + 1 = off + (i * 5 + 1) := by omega
    have e2 : off + i * 5 + 2 = off + (i * 5 + 2) := by omega
    have e3 : off + i * 5 + 3 = off + (i * 5 + 3) := by omega
    have e4 : off + i * 5 + 4 = off + (i * 5 + 4) := by omega
    exact ⟨by rw [hcell _ (by omega), cf0], by rw [e1, hcell _ (by omega), cf1], by rw [e2, hcell _ (by omega), cf2], by rw [e3, hcell _ (by omega), cf3], by rw [e4, hcell _ (by omega), cf4]⟩
theorem bel_grown {w w1 w2 : World} {row : Option Nat} (h : Below w.heap.size w w1) (hg : w1.grownBy w2 row) (hr : ∀ k, row = some k → w.heap.size ≤ k) : Below w.heap.size w w2 := h.grown hg h.size hr
/-- Where a slice of terms lies: below a block number. -/
def Under (a : Option Addr) (n B : Nat) : Prop := n = 0 ∨ ∀ b off, a = some ⟨b, off, none⟩ → b < B
/-- .. from a block number on. -/
def From (a : Option Addr) (n B : Nat) : Prop := n = 0 ∨ ∀ b off, a = some ⟨b, off, none⟩ → B ≤ b
theorem Rd.under {w : World} {a : Option Addr} {n cap : Nat} {f : Nat → T} (h : Rd w a n cap f) : Under a n w.heap.size := by
  rcases h.2.2 with h0 | ⟨b, off, rfl, hlt, _⟩
  · exact .inl h0
  · exact .inr fun b' off' e => by cases e; exact hlt
theorem Out.from {lo : Nat} {w : World} {a : Option Addr} {cap : Nat} {L : List T} (h : Out lo w a cap L) : From a L.length lo := by
  rcases h.2.2 with h0 | ⟨g, off, rfl, hlo⟩
  · exact .inl h0
  · exact .inr fun b' off' e => by cases e; exact hlo
theorem Under.off {a : Option Addr} {n B X : Nat} (h : Under a n B) (hX : B ≤ X) : n = 0 ∨ ∀ b off, a = some ⟨b, off, none⟩ → some b ≠ some X := by
  rcases h with h0 | h
  · exact .inl h0
  · exact .inr fun b off e => by have := h b off e; simp; omega
theorem From.off {a : Option Addr} {n B X : Nat} (h : From a n B) (hX : X < B) : n = 0 ∨ ∀ b off, a = some ⟨b, off, none⟩ → some b ≠ some X := by
  rcases h with h0 | h
  · exact .inl h0
  · exact .inr fun b off e => by have := h b off e; simp; omega
theorem Under.mono {a : Option Addr} {n B B' : Nat} (h : Under a n B) (hB : B ≤ B') : Under a n B' := by
  rcases h with h0 | h
  · exact .inl h0
  · exact .inr fun b off e => Nat.lt_of_lt_of_le (h b off e) hB
/-- Two slices that lie apart: a mark in one is none in the other. -/
theorem apart {a c : Option Addr} {n m B : Nat} (h : Under a n B) (k : From c m B) (hm : m ≠ 0) {w : World} {f : Nat → T} (hw : Wr w c m f) : n = 0 ∨ ∀ b off, a = some ⟨b, off, none⟩ → some b ≠ c.map (·.block) := by
  rcases h with h0 | h
  · exact .inl h0
  · rcases k with k0 | k
    · exact absurd k0 hm
    · rcases hw with w0 | ⟨g, off, N, F, rfl, _⟩
      · exact absurd w0 hm
      · exact .inr fun b off' e => by
          have h1 := h b off' e
          have h2 := k g off rfl
          simp
          omega
theorem polAdd_len (f : Nat → T) (la : Nat) (g : Nat → T) (lb : Nat) : (polAdd f la g lb).1.length ≤ 400 := by
  unfold polAdd
  split
  · rename_i h; exact h.2.2
  · simp
end Go.Proofs.YtkcmamepoplcdaaGreatDoor
namespace Go.Proofs.YtkcmamepoplcdaaGreatDoor
open Go.RowKit
set_option linter.unusedVariables false

/-- PolOf. -/
def polOf (c : Int) (m : M) : List T := if (1 ≤ c ∧ c ≤ 100) ∧ m.ok = true then [⟨c, m⟩] else []
/-- PolAt: the number of the first term with a monomial, from the k-th on. -/
def atFrom (f : Nat → T) (m : M) : Nat → Nat → Int
  | 0, _ => 0
  | u + 1, k => if (f k).m.eqB m = true then (f k).c else atFrom f m u (k + 1)
def polAt (f : Nat → T) (n : Nat) (m : M) : Int := atFrom f m n 0
/-- k terms, each c times. -/
def scT (c : Int) (f : Nat → T) (k : Nat) : List T := (List.range k).map fun i => ⟨c * (f i).c % 101, (f i).m⟩
theorem scT_len (c : Int) (f : Nat → T) (k : Nat) : (scT c f k).length = k := by simp [scT]
theorem scT_succ (c : Int) (f : Nat → T) (k : Nat) : scT c f (k + 1) = scT c f k ++ [⟨c * (f k).c % 101, (f k).m⟩] := by simp [scT, List.range_succ]
set_option maxRecDepth 100000 in
set_option maxHeartbeats 4000000 in
theorem l3ScaleS (w : World) (c : Int) (a : Option Addr) (n cap : Nat) (f : Nat → T) (h : Rd w a n cap f) (hc0 : 0 ≤ c) (hc1 : c ≤ 100) (hl : n ≤ 1000000) (hcf : ∀ i, i < n → 0 ≤ (f i).c ∧ (f i).c ≤ 100) :
    Calls Tryz.prog 102 #[.int .i64 c, .slice a n cap] w fun r w' => ∃ v, r = .returned v ∧ Below w.heap.size w w' ∧ w'.ownsRow w.heap.size 79 5 v (if c = 0 then 0 else n) (cellsL (scT c f (if c = 0 then 0 else n))) := by
  obtain ⟨i0, hi0, hz0, hz1, hz2⟩ := info_parts infoT
  obtain ⟨h1, h2, h3⟩ := h
  have hn : (n : Int) ≤ 1000000 := by omega
  by_cases hz : c = 0
  · rw [if_pos hz]
    subst hz
    go_enter Tryz.func102, Tryz.ntmps102
    go_wp2
    go_loopw [5, 6] (fun v i wr => v = .slice (some ⟨w.heap.size, 0, none⟩) 0 0 ∧ i = .int .i64 0 ∧ wr = w.alloc (.cells #[] 79)) (fun _ _ _ => 0)
    case atStart => exact ⟨rfl, rfl, rfl⟩
    case round =>
      obtain ⟨rfl, rfl, rfl⟩ := hrel
      by_cases hn0 : n = 0
      · subst hn0
        go_wp2
        go_ret
        exact ⟨_, rfl, (Below.refl _ _).alloc (Nat.le_refl _) _, owns_none w _ (Nat.le_refl _)⟩
      · have hnp : (0 : Int) < (n : Int) := by omega
        have dn : decide ((0 : Int) < (n : Int)) = true := decide_eq_true hnp
        go_wp2
        go_ret
        exact ⟨_, rfl, (Below.refl _ _).alloc (Nat.le_refl _) _, owns_none w _ (Nat.le_refl _)⟩
  · rw [if_neg hz]
    have hcb : (c != 0) = true := by simp [hz]
    clear hz
    go_enter Tryz.func102, Tryz.ntmps102
    go_wp2
    go_loopw [5, 6] (fun v i wr => ∃ k : Nat, k ≤ n ∧ i = .int .i64 k ∧ Below w.heap.size w wr ∧ wr.ownsRow w.heap.size 79 5 v k (cellsL (scT c f k))) (fun _ i _ => n - (intOf i).toNat)
    case atStart => exact ⟨0, Nat.zero_le _, rfl, (Below.refl _ _).alloc (Nat.le_refl _) _, owns_none w _ (Nat.le_refl _)⟩
    case round =>
      obtain ⟨k, hk, rfl, hB, hown⟩ := hrel
      by_cases hlt : k < n
      · rcases h3 with h0 | ⟨b, off, rfl, hblt, hcl⟩
        · omega
        have hkn : (k : Int) < (n : Int) := by omega
        have hbr : b < wr.heap.size := Nat.lt_of_lt_of_le hblt hB.size
        obtain ⟨g0, g1, g2, g3, g4⟩ := (hcl k hlt).below hB hblt
        obtain ⟨cf1, cf2⟩ := hcf k hlt
        obtain ⟨mb1, mb2⟩ := mul_bd hc0 hc1 cf1 cf2
        have HV : Hid ((IntKind.i64.wrap (c * (f k).c)).tmod 101 = c * (f k).c % 101) := by
          show _ = _
          rw [show IntKind.i64.wrap (c * (f k).c) = c * (f k).c by rw [IntKind.wrap_i64]; omega, Int.tmod_eq_emod_of_nonneg mb1]
        have HO := Hid.mk' hown
        clear hcl hcf hown
        go_wp2_with fail
        go_region_held3 (fun u => u.cell? ⟨b, off + k * 5, none⟩ = some (.int .i64 (f k).c) ∧ u.cell? ⟨b, off + k * 5 + 1, none⟩ = some (.int .i64 (f k).m.x) ∧ u.cell? ⟨b, off + k * 5 + 2, none⟩ = some (.int .i64 (f k).m.y) ∧ u.cell? ⟨b, off + k * 5 + 3, none⟩ = some (.int .i64 (f k).m.d) ∧ u.cell? ⟨b, off + k * 5 + 4, none⟩ = some (.int .i64 (f k).m.e)) (first | go_keep | (refine ⟨?_, ?_, ?_, ?_, ?_⟩ <;> (rw [hgrow.cell_far _ (by simp; omega) (by intro hh; exact absurd (HO.out.lt b hh.symm).1 (by omega))]; go_simp))) ((refine step_append_lies _ (by rfl) (.tmp 18) (.tmp 33) 22 (by rfl) w.heap.size 79 i0 _ 5 40 Tryz.underlying22 hi0 hz0 hz1 hz2 rfl (by omega) _ k (cellsL (scT c f k)) (by rfl) (by first | exact HO.out.alloc _ | exact (owns_below HO.out (Below.refl _ _).drew).alloc _) ⟨wr.heap.size, 0, none⟩ 1 1 (cellsL [⟨c * (f k).c % 101, (f k).m⟩]) (by rfl) (by rw [cellsL_length]; rfl) (by rw [cellsL_one]; simp only; rw [← HV.out]; exact World.news_of_block (heap_alloc_new wr _)) (one_cells _) (by omega) (by unfold maxLen; omega) (by omega) (by have := hB.size; simp; omega) _ (by rfl) ?_; intro g0 cap0 w1 hown1 hgrow hat hlt1))
        have HB := Hid.mk' (((hB.alloc hB.size _).drew).grown hgrow (Nat.le_trans hB.size (by simp)) (fun j hj => (HO.out.lt j hj).1))
        have HP := Hid.mk' hown1
        clear hown1 hgrow hat hlt1 HO
        go_wp2
        go_roundw
        case rel => exact ⟨k + 1, by omega, by go_num, HB.out, by rw [scT_succ, cellsL_append]; exact HP.out⟩
        case measure => simp [intOf]; omega
      · have hkn : k = n := by omega
        subst hkn
        have HO := Hid.mk' hown
        clear hown hcf
        go_wp2
        go_ret
        exact ⟨_, rfl, hB, HO.out⟩
/-- PolScale. -/
def polScale (c : Int) (f : Nat → T) (n : Nat) : List T := if (0 ≤ c ∧ c ≤ 100) ∧ polOk n f = true ∧ c ≠ 0 then scT c f n else []
theorem lf_scT (c : Int) (f : Nat → T) (n i : Nat) (h : i < n) : lf (scT c f n) i = ⟨c * (f i).c % 101, (f i).m⟩ := by
  simp [lf, scT, List.getD, List.getElem?_map, List.getElem?_range h]
/-- what is added for a difference. -/
def negT (g : Nat → T) (lb : Nat) : Nat → T := lf (scT 100 g lb)
/-- PolSub. -/
def polSub (f : Nat → T) (la : Nat) (g : Nat → T) (lb : Nat) : List T × Bool :=
  if polOk la f = true ∧ polOk lb g = true ∧ (addT f la (negT g lb) lb 0 0).length ≤ 400 then (addT f la (negT g lb) lb 0 0, true) else ([], false)
theorem polSub_len (f : Nat → T) (la : Nat) (g : Nat → T) (lb : Nat) : (polSub f la g lb).1.length ≤ 400 := by
  unfold polSub
  split
  · rename_i h; exact h.2.2
  · simp
theorem polOk_m {n : Nat} {f : Nat → T} (h : polOk n f = true) : ∀ i, i < n → (f i).m.ok = true := by
  intro i hi
  simp only [polOk, decide_eq_true_eq] at h
  have := h.2 i hi
  simp only [okAt, Bool.and_eq_true, decide_eq_true_eq] at this
  exact this.1.2
/-- PolFree. -/
def polFree (n : Nat) (f : Nat → T) : Bool := polOk n f && decide (∀ i, i < n → (f i).m.d + (f i).m.e ≤ 0)
set_option maxHeartbeats 4000000 in
theorem polFreeS (w : World) (a : Option Addr) (n cap : Nat) (f : Nat → T) (h : Rd w a n cap f) :
    Calls Tryz.prog 103 #[.slice a n cap] w fun r w' => r = .returned (.bool (polFree n f)) ∧ Below w.heap.size w w' := by
  have HR := Hid.mk' h
  obtain ⟨h1, h2, h3⟩ := h
  have hn : (n : Int) ≤ 140737488351232 := by omega
  cases hp : polOk n f
  · have e1 : polFree n f = false := by simp [polFree, hp]
    rw [e1]
    clear e1 h3
    go_enter Tryz.func103, Tryz.ntmps103
    go_wp2_with fail
    refine (polOkS _ _ _ _ f HR.out).mono ?_
    rw [hp]
    rintro r w1 ⟨rfl, hb⟩
    go_wp2
    go_ret
    exact ⟨rfl, hb⟩
  · have HM := Hid.mk' (polOk_m hp)
    go_enter Tryz.func103, Tryz.ntmps103
    go_wp2_with fail
    refine (polOkS _ _ _ _ f HR.out).mono ?_
    rw [hp]
    rintro r w1 ⟨rfl, hb⟩
    have HB1 := Hid.mk' hb
    clear hb
    go_wp2
    go_loopw [3] (fun i wr => ∃ k : Nat, k ≤ n ∧ i = .int .i64 k ∧ Below w.heap.size w wr ∧ Hid (∀ j, j < k → (f j).m.d + (f j).m.e ≤ 0)) (fun i _ => n - (intOf i).toNat)
    case atStart => exact ⟨0, Nat.zero_le _, rfl, HB1.out, fun j hj => absurd hj (Nat.not_lt_zero _)⟩
    case round =>
      obtain ⟨k, hk, rfl, hB, hok⟩ := hrel
      by_cases hlt : k < n
      · rcases h3 with h0 | ⟨b, off, rfl, hblt, hcl⟩
        · omega
        have hkn : (k : Int) < (n : Int) := by omega
        have hbr : b < wr.heap.size := Nat.lt_of_lt_of_le hblt hB.size
        have ne := Ext.there wr
        have hck := (hcl k hlt).below hB hblt
        have s3 : ∀ u : Ext wr, u.1.cell? ⟨b, off + k * 5 + 3, none⟩ = some (.int .i64 (f k).m.d) := fun u => (u.cell hbr).trans hck.2.2.2.1
        have s4 : ∀ u : Ext wr, u.1.cell? ⟨b, off + k * 5 + 4, none⟩ = some (.int .i64 (f k).m.e) := fun u => (u.cell hbr).trans hck.2.2.2.2
        obtain ⟨_, _, _, _, d1, d2, e1, e2⟩ := M.ok_iff.1 (HM.out k hlt)
        clear hck hcl
        by_cases hq : 0 < (f k).m.d + (f k).m.e
        · have HF : Hid (polFree n f = false) := by
            show _ = _
            simp only [polFree, hp, Bool.true_and, decide_eq_false_iff_not]
            intro hh
            have := hh k hlt
            omega
          have dq : decide (0 < (f k).m.d + (f k).m.e) = true := decide_eq_true hq
          go_wp2_with fail
          refine wp_region_ext (by kernel_rfl) (by kernel_rfl) ?_
          repeat (go_big_quiet_step (fail))
          refine wpQuiet_nil ?_
          rintro _ ⟨u, rfl⟩
          go_wp2
          go_ret
          exact ⟨by rw [HF.out]; rfl, hB.trans (u.2.mono hB.size)⟩
        · have hok' : Hid (∀ j, j < k + 1 → (f j).m.d + (f j).m.e ≤ 0) := fun j hj => by
            by_cases hjk : j = k
            · rw [hjk]; omega
            · exact hok.out j (by omega)
          have dq : decide (0 < (f k).m.d + (f k).m.e) = false := decide_eq_false hq
          clear hok
          go_wp2_with fail
          refine wp_region_ext (by kernel_rfl) (by kernel_rfl) ?_
          repeat (go_big_quiet_step (fail))
          refine wpQuiet_nil ?_
          rintro _ ⟨u, rfl⟩
          go_wp2
          go_roundw
          case rel => exact ⟨k + 1, by omega, by go_num, hB.trans (u.2.mono hB.size), hok'⟩
          case measure => simp [intOf]; omega
      · have HF : Hid (polFree n f = true) := by
          show _ = _
          simp only [polFree, hp, Bool.true_and, decide_eq_true_eq]
          exact fun i hi => hok.out i (by omega)
        go_wp2
        go_ret
        exact ⟨by rw [HF.out]; rfl, hB⟩
/-- which term is the greatest, of those from the i-th on and the k-th. -/
def leadFrom (o : Int) (f : Nat → T) : Nat → Nat → Nat → Nat
  | 0, _, k => k
  | u + 1, i, k => if 0 < M.ord o (f i).m (f k).m then leadFrom o f u (i + 1) i else leadFrom o f u (i + 1) k
def leadAt (o : Int) (f : Nat → T) (n : Nat) : Nat := leadFrom o f (n - 1) 1 0
end Go.Proofs.YtkcmamepoplcdaaGreatDoor
namespace Go.Proofs.YtkcmamepoplcdaaGreatDoor
open Go.RowKit
set_option linter.unusedVariables false

theorem owns_nil (w : World) (lo : Nat) : w.ownsRow lo 79 5 (.slice none 0 0) 0 (cellsL []) := ⟨rfl, .inl ⟨rfl, rfl⟩⟩
end Go.Proofs.YtkcmamepoplcdaaGreatDoor
