/-
  The draw of a list of operators: some operators, each in memory of its own.
  Operators without bounds: a choice of times and slopes in which every operator is told by what it does; the numbers of its monomials; products of monomials and what stands below them.
  A list of operators of whose pairs nothing is left by smaller ones is a basis: whatever is made of it, and is not 0, has a monomial that a greatest one of the list divides.
-/
import Derived.Test.YtbkighpmkadmmaaHbb
import Derived.Test.YtbkighpmkadmmaaHah
import Derived.Deep.RegionHeld3
import Derived.Deep.Light
import Derived.Deep.AppendLies
import Derived.Test.YtbkighpmkadmmaaHbc
import Derived.Test.YtbkighpmkadmmaaHbd
import Derived.Test.YtbkighpmkadmmaaHbf
namespace Go.Proofs.Ytbkighpmkadmmaa
open Go.RowKit Go.Deep Go.Joins
set_option linter.unusedVariables false

theorem sl_new3 (u : World) (N : Nat) (t : TypeId) (x0 x1 x2 : Int) (hN : N ≤ u.heap.size) : Sl (u.alloc (.cells #[.int .i64 x0, .int .i64 x1, .int .i64 x2] t)) N 3 (.slice (some ⟨u.heap.size, 0, none⟩) 3 3) := by
  refine ⟨u.heap.size, rfl, hN, fun i hi => ?_⟩
  rw [World.cell?_alloc_at _ _ _ _ rfl]
  have h5 : i = 0 ∨ i = 1 ∨ i = 2 := by omega
  rcases h5 with rfl | rfl | rfl <;> exact ⟨_, rfl⟩
def FJ (B N : Nat) (w : World) (v : Value) : Nat → Prop
  | 0 => v = .pointer (some ⟨B, 0, none⟩)
  | 1 => Pk 2 v
  | 2 => Sl w N 3 v
  | 3 => v = .pointer (some ⟨B, 0, none⟩)
  | 4 => Pk 3 v
  | 5 => Ix w N v
  | 6 => Ld v
  | 7 => v = .pointer (some ⟨B, 0, none⟩)
  | 8 => Pk 3 v
  | 9 => Ld v
  | 10 => Sl w N 3 v
  | 11 => v = .pointer (some ⟨B, 0, none⟩)
  | 12 => Pk 3 v
  | 13 => Ix w N v
  | 14 => Ld v
  | 15 => Ag v
  | _ => True
theorem FJ.move {B N : Nat} {w w' : World} {v : Value} {k : Nat} (h : FJ B N w v k) (hb : Beside B w w') (hB : B < N) : FJ B N w' v k := by
  unfold FJ at h ⊢
  split at h <;> first | exact h | exact Sl.move h hb hB | exact Ix.move h hb hB
def MJ (F : (Nat → Value) → Act) (B p : Nat) (W : World) (N : Nat) (l : Array Bool) (a : Act) (u : World) : Prop :=
  ∃ (q : Nat) (vs : Nat → Value), a = F vs ∧ Rdr u B q ∧ q + undone l ≤ p + 18 ∧ Beside B W u ∧ N ≤ u.heap.size ∧ l.size = 18 ∧
    (l.getD 17 false = true → ∀ k, k < 17 → l.getD k false = true) ∧ (∀ k, l.getD k false = true → l.getD 17 false = false → FJ B N u (vs k) k) ∧ (l.getD 16 false = true → Al u N (vs 16))
theorem MJ.step {F : (Nat → Value) → Act} {B p : Nat} {W : World} {N : Nat} {l : Array Bool} {u u' : World} {q' : Nat} {vs : Nat → Value} {i : Nat} {v : Value} (hB : B < N)
    (hR : Rdr u' B q') (hq : q' + undone (l.setIfInBounds i true) ≤ p + 18) (hW : Beside B W u) (hN : N ≤ u.heap.size) (hl : l.size = 18) (h17 : l.getD 17 false = false) (hi : i ≠ 17)
    (hf : ∀ k, l.getD k false = true → l.getD 17 false = false → FJ B N u (vs k) k) (h16 : l.getD 16 false = true → Al u N (vs 16)) (hm : Beside B u u')
    (hv : FJ B N u' v i) (hv' : i = 16 → Al u' N v) (a : Act) (ha : a = F (fun k => if k = i then v else vs k)) : MJ F B p W N (l.setIfInBounds i true) a u' := by
  refine ⟨q', fun k => if k = i then v else vs k, ha, hR, hq, hW.trans hm, Nat.le_trans hN hm.size, by simp [hl], ?_, ?_, ?_⟩
  · intro h
    rw [getD_set_ne false hi, h17] at h
    cases h
  · intro k hk _
    by_cases hki : k = i
    · have hv2 : FJ B N u' v k := by rw [hki]; exact hv
      exact Eq.mpr (congrArg (fun z => FJ B N u' z k) (if_pos hki)) hv2
    · rw [getD_set_ne false (fun e => hki e.symm)] at hk
      simp only [if_neg hki]
      exact (hf k hk h17).move hm hB
  · intro hk
    by_cases hki : 16 = i
    · exact Eq.mpr (congrArg (fun z => Al u' N z) (if_pos hki)) (hv' hki.symm)
    · rw [getD_set_ne false (fun e => hki e.symm)] at hk
      simp only [if_neg hki]
      exact (h16 hk).move hm hB
abbrev G4 (g : Nat) (a0 a1 a2 a3 : Int) (u : World) : Prop := u.cell? ⟨g, 0, none⟩ = some (.int .i64 a0) ∧ u.cell? ⟨g, 1, none⟩ = some (.int .i64 a1) ∧ u.cell? ⟨g, 2, none⟩ = some (.int .i64 a2) ∧ u.cell? ⟨g, 3, none⟩ = some (.int .i64 a3)
theorem G4.beside {g B : Nat} {a0 a1 a2 a3 : Int} {u u' : World} (h : G4 g a0 a1 a2 a3 u) (hb : Beside B u u') (hg : g ≠ B) : G4 g a0 a1 a2 a3 u' :=
  have l := World.block_lt_of_cell? u ⟨g, 0, none⟩ h.1
  ⟨(hb.cell l hg).trans h.1, (hb.cell l hg).trans h.2.1, (hb.cell l hg).trans h.2.2.1, (hb.cell l hg).trans h.2.2.2⟩
theorem G4.below {g : Nat} {a0 a1 a2 a3 : Int} {u u' : World} (h : G4 g a0 a1 a2 a3 u) (hb : Below u.heap.size u u') : G4 g a0 a1 a2 a3 u' :=
  have l := World.block_lt_of_cell? u ⟨g, 0, none⟩ h.1
  ⟨(hb.cell (p := ⟨g, 0, none⟩) l).trans h.1, (hb.cell (p := ⟨g, 1, none⟩) l).trans h.2.1, (hb.cell (p := ⟨g, 2, none⟩) l).trans h.2.2.1, (hb.cell (p := ⟨g, 3, none⟩) l).trans h.2.2.2⟩
/-- a slice of terms that can be read, in a block of its own. -/
def El (w : World) (lo : Nat) (g : Option Nat) (v : Value) : Prop := ∃ a n c f, v = .slice a n c ∧ Rd w a n c f ∧ n ≤ 5 ∧ (n = 0 ∨ ∃ b off, a = some ⟨b, off, none⟩ ∧ lo ≤ b ∧ some b ≠ g)
theorem El.below {w w' : World} {lo : Nat} {g : Option Nat} {v : Value} (h : El w lo g v) (hb : Below w.heap.size w w') : El w' lo g v := by
  obtain ⟨a, n, c, f, rfl, hr, hn, hx⟩ := h
  exact ⟨a, n, c, f, rfl, hr.below hb, hn, hx⟩
theorem El.beside {w w' : World} {B lo : Nat} {g : Option Nat} {v : Value} (h : El w lo g v) (hb : Beside B w w') (hB : B < lo) : El w' lo g v := by
  obtain ⟨a, n, c, f, rfl, hr, hn, hx⟩ := h
  refine ⟨a, n, c, f, rfl, hr.beside hb ?_, hn, hx⟩
  rcases hx with h0 | ⟨b, off, rfl, hlo, _⟩
  · exact .inl h0
  · exact .inr fun b' off' e => by cases e; omega
theorem El.none {w : World} {lo : Nat} {g : Option Nat} {v : Value} (h : El w lo g v) : El w lo none v := by
  obtain ⟨a, n, c, f, rfl, hr, hn, hx⟩ := h
  exact ⟨a, n, c, f, rfl, hr, hn, hx.imp id fun ⟨b, off, e, hlo, _⟩ => ⟨b, off, e, hlo, by simp⟩⟩
theorem El.grown {w w' : World} {lo g H : Nat} {row : Option Nat} {v : Value} (h : El w lo row v) (hg : w.grownBy w' row) (hat : row = some g ∨ g = H) (hH : w.heap.size ≤ H) : El w' lo (some g) v := by
  obtain ⟨a, n, c, f, rfl, hr, hn, hx⟩ := h
  rcases hx with h0 | ⟨b, off, rfl, hlo, hne⟩
  · exact ⟨a, n, c, f, rfl, hr.grown hg (.inl h0), hn, .inl h0⟩
  · by_cases h0 : n = 0
    · exact ⟨_, n, c, f, rfl, hr.grown hg (.inl h0), hn, .inl h0⟩
    refine ⟨_, n, c, f, rfl, hr.grown hg (.inr fun b' off' e => by cases e; exact hne), hn, .inr ⟨b, off, rfl, hlo, ?_⟩⟩
    have hlt : b < w.heap.size := by
      rcases hr.2.2 with h1 | ⟨b', off', e, hl, _⟩
      · exact absurd h1 h0
      · cases e; exact hl
    rcases hat with e | e
    · rw [← e]; exact hne
    · intro ee
      have : b = g := by simpa using ee
      omega
theorem infoTS : (Try.prog.info? 29).map (fun i => (i.zero, i.size, i.bytes)) = some (some (.slice none 0 0), 1, 24) := by kernel_rfl
set_option maxRecDepth 100000 in
set_option maxHeartbeats 8000000 in
theorem list_any (w : World) (B p : Nat) (most n : Int) (h : Rdr w B p) (m1 : 1 ≤ most) (m2 : most ≤ 4) (hn : 1 ≤ n) (hn' : n ≤ 1000) (hp : p ≤ 750) :
    Calls Try.prog 42 #[.pointer (some ⟨B, 0, none⟩), .int .i64 most, .int .i64 n] w fun r w' => ∃ (v : Value) (LS : List Value) (q : Nat), r = .returned v ∧ w'.ownsRow w.heap.size 29 1 v LS.length LS ∧ LS.length ≤ 5 ∧ (∀ e ∈ LS, El w' w.heap.size v.ownBlock e) ∧ q ≤ p + 1000 ∧ Rdr w' B q ∧ Beside B w w' := by
  have hB := h.lt
  obtain ⟨tI, hi0, hz0, hz1, hz2⟩ := info_parts infoTS
  have HR0 := Hid.mk' (h.alloc (.cells #[] 29))
  have HB0 := Hid.mk' ((Beside.refl B w).alloc (.cells #[] 29))
  have HO0 : Hid ((w.alloc (.cells #[] 29)).ownsRow w.heap.size 29 1 (.slice (some ⟨w.heap.size, 0, none⟩) 0 0) 0 []) := World.ownsRow_lit _ _ _ (Nat.le_refl _) (Nat.zero_le _) rfl
  clear h
  go_enter Try.func42, Try.ntmps42
  go_wp2_with fail
  generalize (w.alloc (.cells #[] 29)) = W at *
  refine (pick_any _ B p most HR0.out (by omega) (by omega) (by omega)).mono ?_
  rintro e w1 ⟨k, rfl, k0, k1, hk⟩
  have HR1 := Hid.mk' (hk.rdr HR0.out)
  have HB1 := Hid.mk' (HB0.out.trans hk.beside)
  have HO1 := Hid.mk' (owns_beside HO0.out hk.beside hB)
  clear hk HO0 HR0 HB0
  go_wp2
  go_loopw [7, 8] (fun v i wr => ∃ (j : Nat) (LS : List Value) (q : Nat), i = .int .i64 j ∧ LS.length + j ≤ 4 ∧ wr.ownsRow w.heap.size 29 1 v LS.length LS ∧ (∀ e ∈ LS, El wr w.heap.size v.ownBlock e) ∧ q + 50 * j ≤ p + 201 ∧ Rdr wr B q ∧ Beside B w wr) (fun _ i _ => (intOf i).toNat)
  case atStart => exact ⟨(1 + k).toNat, [], p + 1, by rw [Int.toNat_of_nonneg (by omega)], by simp; omega, HO1.out, (fun e he => absurd he List.not_mem_nil), by omega, HR1.out, HB1.out⟩
  case round =>
    obtain ⟨j, LS, q, rfl, hj, ho, hE, hq, hR, hb⟩ := hrel
    by_cases hj0 : 0 < j
    · have hjb : (0 : Int) < (j : Int) := by omega
      have HO := Hid.mk' ho
      have HE := Hid.mk' hE
      have HR := Hid.mk' hR
      have HB := Hid.mk' hb
      clear ho hE hR hb
      have hwo : w.heap.size ≤ wr.heap.size := HB.out.size
      have HR2 := Hid.mk' (HR.out.alloc (.cells #[] 33))
      have HB2 := Hid.mk' ((Beside.refl B wr).alloc (.cells #[] 33))
      have HO2 : Hid ((wr.alloc (.cells #[] 33)).ownsRow wr.heap.size 33 5 (.slice (some ⟨wr.heap.size, 0, none⟩) 0 0) ([] : List T).length (cellsL [])) := owns_none wr wr.heap.size (Nat.le_refl _)
      generalize hwr : wr = wo at *
      clear hwr wr
      go_wp2_with fail
      generalize (wo.alloc (.cells #[] 33)) = w2 at *
      refine (pick_any _ B q 2 HR2.out (by omega) (by omega) (by omega)).mono ?_
      rintro e w3 ⟨i, rfl, i0, i1, hk⟩
      have HR3 := Hid.mk' (hk.rdr HR2.out)
      have HB3 := Hid.mk' (HB2.out.trans hk.beside)
      have HO3 := Hid.mk' (owns_beside HO2.out hk.beside (by omega))
      clear hk HR2 HB2 HO2
      go_wp2
      go_loopw [9, 10] (fun v2 ii wx => ∃ (j2 : Nat) (L : List T) (q2 : Nat), ii = .int .i64 j2 ∧ wx.ownsRow wo.heap.size 33 5 v2 L.length (cellsL L) ∧ L.length + j2 ≤ 2 ∧ Hid (Cok L) ∧ q2 + 20 * j2 ≤ q + 41 ∧ Rdr wx B q2 ∧ Beside B wo wx) (fun _ ii _ => (intOf ii).toNat)
      case atStart => exact ⟨(1 + i).toNat, [], q + 1, by rw [Int.toNat_of_nonneg (by omega)], HO3.out, by simp; omega, cok_nil, by omega, HR3.out, HB3.out⟩
      case round =>
        obtain ⟨j2, L, q2, rfl, ho2, hl2, hc2, hq2, hR2, hb2⟩ := hrel
        have HX := Hid.mk' hb2
        have HRx := Hid.mk' hR2
        have HOx := Hid.mk' ho2
        clear hR2 hb2 ho2
        by_cases hj2 : 0 < j2
        · have hjb2 : (0 : Int) < (j2 : Int) := by omega
          go_wp2_with fail
          obtain ⟨N, hNe⟩ : ∃ N, wr.heap.size = N := ⟨_, rfl⟩
          have hBN : B < N := by have := HX.out.size; omega
          refine Code.wp_mono (Q := fun e a u => e = Exit.normal ∧ ∃ (q : Nat) (vs : Nat → Value), a = { tmps := #[Value.pointer (some ⟨B, 0, none⟩), Value.int IntKind.i64 most, Value.int IntKind.i64 n, undef, undef, undef, Value.slice none 0 0, u7, Value.int IntKind.i64 (j : Int), u9, Value.int IntKind.i64 (j2 : Int), vs 16, Value.slice (some ⟨w.heap.size, 0, none⟩) 0 0, Value.pointer (some ⟨B, 0, none⟩), Value.int IntKind.i64 most, Value.int IntKind.i64 k, Value.int IntKind.i64 (1 + k), Value.int IntKind.i64 (j : Int), Value.bool true, u19, u20, Value.slice (some ⟨wo.heap.size, 0, none⟩) 0 0, Value.pointer (some ⟨B, 0, none⟩), Value.int IntKind.i64 i, Value.int IntKind.i64 (1 + i), Value.int IntKind.i64 (j2 : Int), Value.bool true, u27, u28, vs 0, vs 1, vs 2, vs 3, vs 4, vs 5, vs 6, vs 7, vs 8, vs 9, vs 10, vs 11, vs 12, vs 13, vs 14, vs 15, u45, u46, u47, u48, u49, u50, u51, u52, u53, u54, u55, u56, u57, u58, u59, u60, u61, undef, undef, undef, undef, undef, undef, undef, undef, undef, undef], defers := [] } ∧ Rdr u B q ∧ q ≤ q2 + 18 ∧ Beside B wr u ∧ Al u N (vs 16)) ?_ ?_
          rotate_left
          · refine wp_region_inv (I := MJ (fun vs : Nat → Value => ({ tmps := #[Value.pointer (some ⟨B, 0, none⟩), Value.int IntKind.i64 most, Value.int IntKind.i64 n, undef, undef, undef, Value.slice none 0 0, u7, Value.int IntKind.i64 (j : Int), u9, Value.int IntKind.i64 (j2 : Int), vs 16, Value.slice (some ⟨w.heap.size, 0, none⟩) 0 0, Value.pointer (some ⟨B, 0, none⟩), Value.int IntKind.i64 most, Value.int IntKind.i64 k, Value.int IntKind.i64 (1 + k), Value.int IntKind.i64 (j : Int), Value.bool true, u19, u20, Value.slice (some ⟨wo.heap.size, 0, none⟩) 0 0, Value.pointer (some ⟨B, 0, none⟩), Value.int IntKind.i64 i, Value.int IntKind.i64 (1 + i), Value.int IntKind.i64 (j2 : Int), Value.bool true, u27, u28, vs 0, vs 1, vs 2, vs 3, vs 4, vs 5, vs 6, vs 7, vs 8, vs 9, vs 10, vs 11, vs 12, vs 13, vs 14, vs 15, u45, u46, u47, u48, u49, u50, u51, u52, u53, u54, u55, u56, u57, u58, u59, u60, u61, undef, undef, undef, undef, undef, undef, undef, undef, undef, undef], defers := [] } : Act)) B q2 wr N) (by kernel_rfl) ?_ ?_ ?_
            · refine ⟨q2, (fun k => #[u29, u30, u31, u32, u33, u34, u35, u36, u37, u38, u39, u40, u41, u42, u43, u44, u11].getD k undef), rfl, HRx.out.drewN 1, ?_, (Beside.refl B wr).drewN 1, by simp [hNe], by simp, ?_, ?_, ?_⟩
              · rw [undone_replicate]; exact Nat.le_refl _
              · intro h; rw [rep_getD] at h; cases h
              · intro k h; rw [rep_getD] at h; cases h
              · intro h; rw [rep_getD] at h; cases h
            · intro l a u hI i hi
              obtain ⟨q, vs, rfl, hR, hq, hBs, hN, hsz, hc, hf, h16⟩ := hI
              have hl0 := (mem_ready.1 hi).1
              have hund := undone_set (getD_false hl0)
              have hi18 : i < 18 := by
                obtain ⟨_, o, ho, _⟩ := mem_ready.1 hi
                exact (Array.getElem?_eq_some_iff.1 ho).1
              have h17 : i ≠ 17 → l.getD 17 false = false := fun hne => by
                cases hx : l.getD 17 false
                · rfl
                · have := hc hx i (by omega)
                  rw [Array.getD_eq_getD_getElem?, getD_false hl0] at this
                  simp at this
              rcases (show i = 0 ∨ i = 1 ∨ i = 2 ∨ i = 3 ∨ i = 4 ∨ i = 5 ∨ i = 6 ∨ i = 7 ∨ i = 8 ∨ i = 9 ∨ i = 10 ∨ i = 11 ∨ i = 12 ∨ i = 13 ∨ i = 14 ∨ i = 15 ∨ i = 16 ∨ i = 17 from by omega) with rfl | rfl | rfl | rfl | rfl | rfl | rfl | rfl | rfl | rfl | rfl | rfl | rfl | rfl | rfl | rfl | rfl | rfl
              · have h17 := h17 (by decide)
                refine wpOp_step rfl (fun K hK => ?_)
                go_simp
                refine hK _ _ ?_
                exact MJ.step (i := 0) (v := .pointer (some ⟨B, 0, none⟩)) hBN hR (by omega) hBs hN hsz h17 (by decide) hf h16 (Beside.refl B u) rfl (fun e => by cases e) _ rfl
              · have h17 := h17 (by decide)
                have e1 : vs 0 = .pointer (some ⟨B, 0, none⟩) := hf 0 (ready_dep hi rfl 0 (by kernel_rfl)) h17
                refine wpOp_step rfl (fun K hK => ?_)
                go_simp
                refine (pick_any u B q 2 hR (by omega) (by omega) (by omega)).mono ?_
                rintro e u' ⟨x, rfl, x0, x1, hk⟩
                refine hK _ _ ?_
                exact MJ.step (i := 1) (v := .int .i64 x) hBN (hk.rdr hR) (by omega) hBs hN hsz h17 (by decide) hf h16 hk.beside ⟨x.toNat, by omega, by rw [Int.toNat_of_nonneg x0]⟩ (fun e => by cases e) _ (by first | (rw [← e1]; done) | (rw [← e1]; rfl))
              · have h17 := h17 (by decide)
                refine wpOp_step rfl (fun K hK => ?_)
                go_simp
                refine hK _ _ ?_
                exact MJ.step (i := 2) (v := .slice (some ⟨u.heap.size, 0, none⟩) 3 3) hBN (hR.alloc _) (by omega) hBs hN hsz h17 (by decide) hf h16 (bes_alloc B u _) (sl_new3 u _ _ _ _ _ hN) (fun e => by cases e) _ rfl
              · have h17 := h17 (by decide)
                refine wpOp_step rfl (fun K hK => ?_)
                go_simp
                refine hK _ _ ?_
                exact MJ.step (i := 3) (v := .pointer (some ⟨B, 0, none⟩)) hBN hR (by omega) hBs hN hsz h17 (by decide) hf h16 (Beside.refl B u) rfl (fun e => by cases e) _ rfl
              · have h17 := h17 (by decide)
                have e1 : vs 3 = .pointer (some ⟨B, 0, none⟩) := hf 3 (ready_dep hi rfl 3 (by kernel_rfl)) h17
                refine wpOp_step rfl (fun K hK => ?_)
                go_simp
                refine (pick_any u B q 3 hR (by omega) (by omega) (by omega)).mono ?_
                rintro e u' ⟨x, rfl, x0, x1, hk⟩
                refine hK _ _ ?_
                exact MJ.step (i := 4) (v := .int .i64 x) hBN (hk.rdr hR) (by omega) hBs hN hsz h17 (by decide) hf h16 hk.beside ⟨x.toNat, by omega, by rw [Int.toNat_of_nonneg x0]⟩ (fun e => by cases e) _ (by first | (rw [← e1]; done) | (rw [← e1]; rfl))
              · have h17 := h17 (by decide)
                obtain ⟨b, e1, hb, hcb⟩ : Sl u N 3 (vs 2) := hf 2 (ready_dep hi rfl 2 (by kernel_rfl)) h17
                obtain ⟨jj, hj, e2⟩ : Pk 3 (vs 4) := hf 4 (ready_dep hi rfl 4 (by kernel_rfl)) h17
                obtain ⟨x, hx⟩ := hcb jj hj
                have hji : (jj : Int) < 3 := by omega
                clear hcb
                refine wpOp_step rfl (fun K hK => ?_)
                go_simp
                refine hK _ _ ?_
                exact MJ.step (i := 5) (v := .pointer (some ⟨b, jj, none⟩)) hBN hR (by omega) hBs hN hsz h17 (by decide) hf h16 (Beside.refl B u) ⟨b, jj, x, rfl, hb, hx⟩ (fun e => by cases e) _ (by first | (rw [← e1, ← e2]; done) | (rw [← e1, ← e2]; rfl))
              · have h17 := h17 (by decide)
                obtain ⟨b, jj, x, e1, hb, hx⟩ : Ix u N (vs 5) := hf 5 (ready_dep hi rfl 5 (by kernel_rfl)) h17
                refine wpOp_step rfl (fun K hK => ?_)
                go_simp
                refine hK _ _ ?_
                exact MJ.step (i := 6) (v := .int .i64 x) hBN hR (by omega) hBs hN hsz h17 (by decide) hf h16 (Beside.refl B u) ⟨x, rfl⟩ (fun e => by cases e) _ (by first | (rw [← e1]; done) | (rw [← e1]; rfl))
              · have h17 := h17 (by decide)
                refine wpOp_step rfl (fun K hK => ?_)
                go_simp
                refine hK _ _ ?_
                exact MJ.step (i := 7) (v := .pointer (some ⟨B, 0, none⟩)) hBN hR (by omega) hBs hN hsz h17 (by decide) hf h16 (Beside.refl B u) rfl (fun e => by cases e) _ rfl
              · have h17 := h17 (by decide)
                have e1 : vs 7 = .pointer (some ⟨B, 0, none⟩) := hf 7 (ready_dep hi rfl 7 (by kernel_rfl)) h17
                refine wpOp_step rfl (fun K hK => ?_)
                go_simp
                refine (pick_any u B q 3 hR (by omega) (by omega) (by omega)).mono ?_
                rintro e u' ⟨x, rfl, x0, x1, hk⟩
                refine hK _ _ ?_
                exact MJ.step (i := 8) (v := .int .i64 x) hBN (hk.rdr hR) (by omega) hBs hN hsz h17 (by decide) hf h16 hk.beside ⟨x.toNat, by omega, by rw [Int.toNat_of_nonneg x0]⟩ (fun e => by cases e) _ (by first | (rw [← e1]; done) | (rw [← e1]; rfl))
              · have h17 := h17 (by decide)
                obtain ⟨jj, hj, e1⟩ : Pk 3 (vs 8) := hf 8 (ready_dep hi rfl 8 (by kernel_rfl)) h17
                refine wpOp_step rfl (fun K hK => ?_)
                go_simp
                refine hK _ _ ?_
                exact MJ.step (i := 9) (v := .int .i64 ((jj : Int).tmod 2)) hBN hR (by omega) hBs hN hsz h17 (by decide) hf h16 (Beside.refl B u) ⟨_, rfl⟩ (fun e => by cases e) _ (by first | (rw [← e1]; done) | (rw [← e1]; rfl))
              · have h17 := h17 (by decide)
                refine wpOp_step rfl (fun K hK => ?_)
                go_simp
                refine hK _ _ ?_
                exact MJ.step (i := 10) (v := .slice (some ⟨u.heap.size, 0, none⟩) 3 3) hBN (hR.alloc _) (by omega) hBs hN hsz h17 (by decide) hf h16 (bes_alloc B u _) (sl_new3 u _ _ _ _ _ hN) (fun e => by cases e) _ rfl
              · have h17 := h17 (by decide)
                refine wpOp_step rfl (fun K hK => ?_)
                go_simp
                refine hK _ _ ?_
                exact MJ.step (i := 11) (v := .pointer (some ⟨B, 0, none⟩)) hBN hR (by omega) hBs hN hsz h17 (by decide) hf h16 (Beside.refl B u) rfl (fun e => by cases e) _ rfl
              · have h17 := h17 (by decide)
                have e1 : vs 11 = .pointer (some ⟨B, 0, none⟩) := hf 11 (ready_dep hi rfl 11 (by kernel_rfl)) h17
                refine wpOp_step rfl (fun K hK => ?_)
                go_simp
                refine (pick_any u B q 3 hR (by omega) (by omega) (by omega)).mono ?_
                rintro e u' ⟨x, rfl, x0, x1, hk⟩
                refine hK _ _ ?_
                exact MJ.step (i := 12) (v := .int .i64 x) hBN (hk.rdr hR) (by omega) hBs hN hsz h17 (by decide) hf h16 hk.beside ⟨x.toNat, by omega, by rw [Int.toNat_of_nonneg x0]⟩ (fun e => by cases e) _ (by first | (rw [← e1]; done) | (rw [← e1]; rfl))
              · have h17 := h17 (by decide)
                obtain ⟨b, e1, hb, hcb⟩ : Sl u N 3 (vs 10) := hf 10 (ready_dep hi rfl 10 (by kernel_rfl)) h17
                obtain ⟨jj, hj, e2⟩ : Pk 3 (vs 12) := hf 12 (ready_dep hi rfl 12 (by kernel_rfl)) h17
                obtain ⟨x, hx⟩ := hcb jj hj
                have hji : (jj : Int) < 3 := by omega
                clear hcb
                refine wpOp_step rfl (fun K hK => ?_)
                go_simp
                refine hK _ _ ?_
                exact MJ.step (i := 13) (v := .pointer (some ⟨b, jj, none⟩)) hBN hR (by omega) hBs hN hsz h17 (by decide) hf h16 (Beside.refl B u) ⟨b, jj, x, rfl, hb, hx⟩ (fun e => by cases e) _ (by first | (rw [← e1, ← e2]; done) | (rw [← e1, ← e2]; rfl))
              · have h17 := h17 (by decide)
                obtain ⟨b, jj, x, e1, hb, hx⟩ : Ix u N (vs 13) := hf 13 (ready_dep hi rfl 13 (by kernel_rfl)) h17
                refine wpOp_step rfl (fun K hK => ?_)
                go_simp
                refine hK _ _ ?_
                exact MJ.step (i := 14) (v := .int .i64 x) hBN hR (by omega) hBs hN hsz h17 (by decide) hf h16 (Beside.refl B u) ⟨x, rfl⟩ (fun e => by cases e) _ (by first | (rw [← e1]; done) | (rw [← e1]; rfl))
              · have h17 := h17 (by decide)
                obtain ⟨jj, hj, e0⟩ : Pk 2 (vs 1) := hf 1 (ready_dep hi rfl 1 (by kernel_rfl)) h17
                obtain ⟨x1, e1⟩ : Ld (vs 6) := hf 6 (ready_dep hi rfl 6 (by kernel_rfl)) h17
                obtain ⟨x2, e2⟩ : Ld (vs 9) := hf 9 (ready_dep hi rfl 9 (by kernel_rfl)) h17
                obtain ⟨x3, e3⟩ : Ld (vs 14) := hf 14 (ready_dep hi rfl 14 (by kernel_rfl)) h17
                refine wpOp_step rfl (fun K hK => ?_)
                go_simp
                refine hK _ _ ?_
                exact MJ.step (i := 15) (v := .agg #[.int .i64 (jj : Int), .int .i64 x1, .int .i64 x2, .int .i64 x3]) hBN hR (by omega) hBs hN hsz h17 (by decide) hf h16 (Beside.refl B u) ⟨_, x1, x2, x3, rfl⟩ (fun e => by cases e) _ (by first | (rw [← e0, ← e1, ← e2, ← e3]; done) | (rw [← e0, ← e1, ← e2, ← e3]; rfl))
              · have h17 := h17 (by decide)
                refine wpOp_step rfl (fun K hK => ?_)
                go_simp
                refine hK _ _ ?_
                exact MJ.step (i := 16) (v := .pointer (some ⟨u.heap.size, 0, none⟩)) hBN (hR.alloc _) (by omega) hBs hN hsz h17 (by decide) hf h16 (bes_alloc B u _) trivial (fun _ => al_new u _ _ _ _ _ _ hN) _ rfl
              · have h17f : l.getD 17 false = false := by rw [Array.getD_eq_getD_getElem?, getD_false hl0]; rfl
                have hall : ∀ k, k < 17 → l.getD k false = true := fun k hk => by
                  have h5 : k = 0 ∨ k = 1 ∨ k = 2 ∨ k = 3 ∨ k = 4 ∨ k = 5 ∨ k = 6 ∨ k = 7 ∨ k = 8 ∨ k = 9 ∨ k = 10 ∨ k = 11 ∨ k = 12 ∨ k = 13 ∨ k = 14 ∨ k = 15 ∨ k = 16 := by omega
                  rcases h5 with rfl | rfl | rfl | rfl | rfl | rfl | rfl | rfl | rfl | rfl | rfl | rfl | rfl | rfl | rfl | rfl | rfl <;> exact ready_dep hi rfl _ (by kernel_rfl)
                obtain ⟨x0, x1, x2, x3, e20⟩ : Ag (vs 15) := hf 15 (hall 15 (by omega)) h17f
                obtain ⟨g, e21, hgN, hgs, hgc, hgf⟩ : Al u N (vs 16) := h16 (hall 16 (by omega))
                obtain ⟨y0, c0⟩ := hgc 0 (by omega)
                obtain ⟨y1, c1⟩ := hgc 1 (by omega)
                obtain ⟨y2, c2⟩ := hgc 2 (by omega)
                obtain ⟨y3, c3⟩ := hgc 3 (by omega)
                have f0 := hgf 0
                have f1 := hgf 1
                have f2 := hgf 2
                have f3 := hgf 3
                refine wpOp_step rfl (fun K hK => ?_)
                have hAl : Al ((((u.setCell ⟨g, 0, none⟩ (.int .i64 x0)).setCell ⟨g, 1, none⟩ (.int .i64 x1)).setCell ⟨g, 2, none⟩ (.int .i64 x2)).setCell ⟨g, 3, none⟩ (.int .i64 x3)) N (vs 16) := by
                  refine ⟨g, e21, hgN, by simpa [World.setCell] using hgs, fun i hi => ?_, fun i => ?_⟩
                  · have h5 : i = 0 ∨ i = 1 ∨ i = 2 ∨ i = 3 := by omega
                    rcases h5 with rfl | rfl | rfl | rfl
                    · exact ⟨x0, by go_simp⟩
                    · exact ⟨x1, by go_simp⟩
                    · exact ⟨x2, by go_simp⟩
                    · exact ⟨x3, by go_simp⟩
                  · simp only [World.frozen?_setCell]; exact hgf i
                have hRn := (((hR.set (b := g) (o := 0) (v := .int .i64 x0) (by omega)).set (b := g) (o := 1) (v := .int .i64 x1) (by omega)).set (b := g) (o := 2) (v := .int .i64 x2) (by omega)).set (b := g) (o := 3) (v := .int .i64 x3) (by omega)
                have hBn := (((hBs.set (b := g) (o := 0) (v := .int .i64 x0) (by omega)).set (b := g) (o := 1) (v := .int .i64 x1) (by omega)).set (b := g) (o := 2) (v := .int .i64 x2) (by omega)).set (b := g) (o := 3) (v := .int .i64 x3) (by omega)
                clear hgc hgf hf h16
                go_simp
                refine hK _ _ ?_
                refine ⟨q, vs, by dsimp only; rw [e20, e21], hRn, by omega, hBn, by simpa [World.setCell] using hN, by simp [hsz], fun _ k hk => ?_, fun k _ hk => ?_, fun _ => hAl⟩
                · rw [getD_set_ne false (by omega)]; exact hall k hk
                · rw [getD_set_eq false (by omega)] at hk; cases hk
            · intro l a u hI hr
              obtain ⟨q, vs, rfl, hR, hq, hBs, hN, hsz, hc, hf, h16⟩ := hI
              refine ⟨rfl, q, vs, rfl, hR, by omega, hBs, h16 ?_⟩
              cases hx : l.getD 16 false
              · exfalso
                rw [List.eq_nil_iff_forall_not_mem] at hr
                refine hr 16 (mem_ready.2 ⟨?_, _, rfl, ?_⟩)
                · rw [Array.getD_eq_getD_getElem?] at hx ⊢
                  rw [Array.getElem?_eq_getElem (by omega)] at hx ⊢
                  simpa using hx
                · intro e he
                  have he2 : e ∈ ([] : List _) := Array.mem_def.1 he
                  cases he2
              · rfl
          rintro e a u ⟨rfl, q3, vs, rfl, hR3, hq3, hBs, hal⟩
          obtain ⟨g, e16, hgN, hg4⟩ := W4d.of_al hal
          rw [e16]
          have HR4 := Hid.mk' hR3
          have HB4 := Hid.mk' hBs
          have HG4 := Hid.mk' hg4
          have hwx : wo.heap.size ≤ g := by have := HX.out.size; omega
          clear hR3 hBs hal hg4 e16
          go_wp2_with fail
          refine (pick_any u B q3 4 HR4.out (by omega) (by omega) (by omega)).mono ?_
          rintro e w5 ⟨x, rfl, x0, x1, hk⟩
          have HR5 := Hid.mk' (hk.rdr HR4.out)
          have HB5 := Hid.mk' (HB4.out.trans hk.beside)
          have HG5 := Hid.mk' (HG4.out.move hk.beside (by omega))
          clear hk HR4 HB4 HG4
          obtain ⟨⟨a0, a1, a2, a3, c0, c1, c2, c3⟩, f0, f1, f2, f3⟩ := HG5.out
          by_cases hx : x = 0
          · subst hx
            have hS6 : G4 g a0 a1 2 a3 (w5.setCell ⟨g, 2, none⟩ (.int .i64 2)) := ⟨by go_simp, by go_simp, by go_simp, by go_simp⟩
            have HR6 := Hid.mk' (HR5.out.set (b := g) (o := 2) (v := .int .i64 2) (by omega))
            have HBx6 := Hid.mk' (HB5.out.set (b := g) (o := 2) (v := .int .i64 2) (by omega))
            go_wp2_with fail
            clear c0 c1 c2 c3 f0 f1 f2 f3 HG5
            generalize (w5.setCell ⟨g, 2, none⟩ (.int .i64 2)) = w6 at *
            have hSd : G4 g a0 a1 2 a3 w6.drew := hS6
            have HRd : Hid (Rdr w6.drew B (q3 + 1)) := HR6.out.drewN 1
            have HBd : Hid (Beside B wr w6.drew) := HBx6.out.drewN 1
            have hgB : g ≠ B := by omega
            go_region_held3 (fun u => u.cell? ⟨g, 0, none⟩ = some (.int .i64 a0) ∧ u.cell? ⟨g, 1, none⟩ = some (.int .i64 a1) ∧ u.cell? ⟨g, 2, none⟩ = some (.int .i64 2) ∧ u.cell? ⟨g, 3, none⟩ = some (.int .i64 a3)) (first | with_reducible exact hSd | with_reducible exact G4.beside hSd hk.beside hgB | with_reducible exact G4.below (G4.beside hSd hk.beside hgB) hb8) (first | (go_at_call 48; (with_reducible refine (pick_any _ B _ 100 HRd.out (by omega) (by omega) (by omega)).mono ?_); rintro e w7 ⟨c, rfl, c0, c1, hk⟩; have hb7 : Beside B wr w7 := (HBd.out.trans hk.beside); have ho7 := owns_beside HOx.out hb7 (by omega); have hs7 : wo.heap.size ≤ w7.heap.size := (HX.out.trans hb7).size; have hw1 : IntKind.i64.wrap (1 + c) = 1 + c := (by rw [IntKind.wrap_i64]; omega)) | (go_at_call 79; (with_reducible refine (l4PutS w7 wo.heap.size u9 L (1 + c) a0 a1 2 a3 ho7 hs7 (by omega) hc2.out (by omega) (by omega)).mono ?_); rintro e w8 ⟨v8, rfl, hb8, ho8⟩))
            have HR8 := Hid.mk' ((hk.rdr HRd.out).beside (beside_of_below hb8))
            have HB8 := Hid.mk' (HX.out.trans (hb7.trans (beside_of_below hb8)))
            have HO8 := Hid.mk' ho8
            have HC8 := Hid.mk' (putT_c (c := 1 + c) (m := ⟨a0, a1, 2, a3⟩) hc2.out (by omega) (by omega))
            have hl8 := putT_len (1 + c) ⟨a0, a1, 2, a3⟩ L
            clear hk hb8 ho8 hSd hb7 ho7
            go_wp2
            go_roundw
            case rel => exact ⟨j2 - 1, putT (1 + c) ⟨a0, a1, 2, a3⟩ L, _, by first | go_num | (congr 1; omega), HO8.out, by omega, HC8.out, by omega, HR8.out, HB8.out⟩
            case measure => simp [intOf]; omega
          · have hxb : (x == 0) = false := by simp [hx]
            have hS6 : G4 g a0 a1 a2 a3 w5 := ⟨c0, c1, c2, c3⟩
            have HR6 := HR5
            have HBx6 := HB5
            clear c0 c1 c2 c3 f0 f1 f2 f3 HG5 hx
            go_wp2_with fail
            generalize w5 = w6 at *
            have hSd : G4 g a0 a1 a2 a3 w6.drew := hS6
            have HRd : Hid (Rdr w6.drew B (q3 + 1)) := HR6.out.drewN 1
            have HBd : Hid (Beside B wr w6.drew) := HBx6.out.drewN 1
            have hgB : g ≠ B := by omega
            go_region_held3 (fun u => u.cell? ⟨g, 0, none⟩ = some (.int .i64 a0) ∧ u.cell? ⟨g, 1, none⟩ = some (.int .i64 a1) ∧ u.cell? ⟨g, 2, none⟩ = some (.int .i64 a2) ∧ u.cell? ⟨g, 3, none⟩ = some (.int .i64 a3)) (first | with_reducible exact hSd | with_reducible exact G4.beside hSd hk.beside hgB | with_reducible exact G4.below (G4.beside hSd hk.beside hgB) hb8) (first | (go_at_call 48; (with_reducible refine (pick_any _ B _ 100 HRd.out (by omega) (by omega) (by omega)).mono ?_); rintro e w7 ⟨c, rfl, c0, c1, hk⟩; have hb7 : Beside B wr w7 := (HBd.out.trans hk.beside); have ho7 := owns_beside HOx.out hb7 (by omega); have hs7 : wo.heap.size ≤ w7.heap.size := (HX.out.trans hb7).size; have hw1 : IntKind.i64.wrap (1 + c) = 1 + c := (by rw [IntKind.wrap_i64]; omega)) | (go_at_call 79; (with_reducible refine (l4PutS w7 wo.heap.size u9 L (1 + c) a0 a1 a2 a3 ho7 hs7 (by omega) hc2.out (by omega) (by omega)).mono ?_); rintro e w8 ⟨v8, rfl, hb8, ho8⟩))
            have HR8 := Hid.mk' ((hk.rdr HRd.out).beside (beside_of_below hb8))
            have HB8 := Hid.mk' (HX.out.trans (hb7.trans (beside_of_below hb8)))
            have HO8 := Hid.mk' ho8
            have HC8 := Hid.mk' (putT_c (c := 1 + c) (m := ⟨a0, a1, a2, a3⟩) hc2.out (by omega) (by omega))
            have hl8 := putT_len (1 + c) ⟨a0, a1, a2, a3⟩ L
            clear hk hb8 ho8 hSd hb7 ho7
            go_wp2
            go_roundw
            case rel => exact ⟨j2 - 1, putT (1 + c) ⟨a0, a1, a2, a3⟩ L, _, by first | go_num | (congr 1; omega), HO8.out, by omega, HC8.out, by omega, HR8.out, HB8.out⟩
            case measure => simp [intOf]; omega
        · obtain rfl : j2 = 0 := by omega
          have hnj : ¬ (0 : Int) < ((0 : Nat) : Int) := by omega
          obtain ⟨pa, pcap, hv9, hout⟩ := out_of_owns HOx.out (by omega)
          subst hv9
          have hOw := owns_beside HO.out HX.out hB
          have hEw : ∀ e ∈ LS, El wr w.heap.size u7.ownBlock e := fun e he => (HE.out e he).beside HX.out hB
          have hElt : ∀ kk, u7.ownBlock = some kk → kk < wo.heap.size := fun kk hkk => (HO.out.lt kk hkk).2
          have hBw := HB.out.trans HX.out
          have hwx : wo.heap.size ≤ wr.heap.size := HX.out.size
          by_cases hL : 0 < L.length
          · have hLb : (0 : Int) < (L.length : Int) := by omega
            have hP : El wr w.heap.size u7.ownBlock (.slice pa L.length pcap) := ⟨pa, L.length, pcap, lf L, rfl, hout.1, by omega, hout.2.2.imp id fun ⟨b, off, e, hlo⟩ => ⟨b, off, e, by omega, fun ee => by have := hElt b ee.symm; omega⟩⟩
            have hnew := heap_alloc_new wr (.cells #[.slice pa L.length pcap] 29)
            have HN := Hid.mk' hnew
            have hO5 := hOw.alloc (.cells #[.slice pa L.length pcap] 29)
            have HE5 : Hid (∀ e ∈ LS ++ [.slice pa L.length pcap], El (wr.alloc (.cells #[.slice pa L.length pcap] 29)) w.heap.size u7.ownBlock e) := fun e he => by
              rcases List.mem_append.1 he with h | h
              · exact (hEw e h).below (bel_one _ _)
              · have : e = .slice pa L.length pcap := by simpa using h
                subst this
                exact hP.below (bel_one _ _)
            have HR5 := Hid.mk' (HRx.out.alloc (.cells #[.slice pa L.length pcap] 29))
            have HB5 := Hid.mk' (hBw.alloc (.cells #[.slice pa L.length pcap] 29))
            have HLt : Hid (∀ kk, u7.ownBlock = some kk → w.heap.size ≤ kk) := fun kk hkk => (HO.out.lt kk hkk).1
            have hnews : ∀ jj u, [Value.slice pa L.length pcap][jj]? = some u → (wr.alloc (.cells #[.slice pa L.length pcap] 29)).cell? ((⟨wr.heap.size, 0, none⟩ : Addr).add jj) = some u := World.news_of_block HN.out
            have hone : ∀ u ∈ [Value.slice pa L.length pcap], u.oneCell' = true := fun u hu => by
              have : u = .slice pa L.length pcap := by simpa using hu
              subst this; rfl
            have hbase : w.heap.size ≤ (wr.alloc (.cells #[.slice pa L.length pcap] 29)).heap.size := by simp; omega
            have hmax : LS.length + 1 ≤ maxLen := by unfold maxLen; omega
            clear hP hEw hElt hnew hOw hout
            go_wp2_with (at_builtin; refine wpList_append_lies _ rfl (.tmp 58) (.tmp 60) 23 rfl w.heap.size 29 tI _ 1 24 Try.underlying23 hi0 hz0 hz1 hz2 rfl (by omega) _ LS.length LS rfl hO5 ⟨wr.heap.size, 0, none⟩ 1 1 [.slice pa L.length pcap] rfl rfl hnews hone (by omega) hmax (by omega) hbase _ rfl ?_; intro g0 cap0 w5 hown1 hgrow hat hlt1)
            have HO6 := Hid.mk' hown1
            have HR6 := Hid.mk' (HR5.out.grown hgrow (fun kk hkk => by have := HLt.out kk hkk; omega))
            have HB6 := Hid.mk' (HB5.out.grown hgrow HLt.out)
            have HE6 : Hid (∀ e ∈ LS ++ [.slice pa L.length pcap], El w5 w.heap.size (some g0) e) := fun e he => (HE5.out e he).grown hgrow hat (Nat.le_refl _)
            go_roundw
            case rel => exact ⟨j - 1, LS ++ [.slice pa L.length pcap], q2, by first | go_num | (congr 1; omega), by simp; omega, by rw [List.length_append]; exact HO6.out, HE6.out, by omega, HR6.out, HB6.out⟩
            case measure => simp [intOf]; omega
          · have hLb : ¬ (0 : Int) < (L.length : Int) := by omega
            have HOw := Hid.mk' hOw
            have HEw := Hid.mk' hEw
            have HBw := Hid.mk' hBw
            clear hOw hEw hBw hElt hout
            go_wp2
            go_roundw
            case rel => exact ⟨j - 1, LS, q2, by first | go_num | (congr 1; omega), by omega, HOw.out, HEw.out, by omega, HRx.out, HBw.out⟩
            case measure => simp [intOf]; omega
    · obtain rfl : j = 0 := by omega
      have hnj : ¬ (0 : Int) < ((0 : Nat) : Int) := by omega
      have HO := Hid.mk' ho
      have HE := Hid.mk' hE
      have HR := Hid.mk' hR
      have HB := Hid.mk' hb
      have hwo : w.heap.size ≤ wr.heap.size := hb.size
      clear ho hE hR hb
      go_wp2_with fail
      refine (pick_any wr B q n HR.out (by omega) (by omega) (by omega)).mono ?_
      rintro e w5 ⟨x, rfl, x0, x1, hk⟩
      have HR5 := Hid.mk' (hk.rdr HR.out)
      have HB5 := Hid.mk' (HB.out.trans hk.beside)
      have HO5 := Hid.mk' (owns_beside HO.out hk.beside hB)
      have HE5 : Hid (∀ e ∈ LS, El w5 w.heap.size u7.ownBlock e) := fun e he => (HE.out e he).beside hk.beside hB
      have hw5 : w.heap.size ≤ w5.heap.size := HB5.out.size
      clear hk HO HE HR HB
      by_cases hx : x = 0
      · subst hx
        go_wp2_with fail
        refine (any_any w5 B _ 1 HR5.out (by omega) (by omega) (by omega)).mono ?_
        rintro e w6 ⟨pa, m, pcap, fa, q6, rfl, hrd, hm5, hblk, hq6, hR6, hb6⟩
        have hOw := owns_beside HO5.out hb6 hB
        have hElt : ∀ kk, u7.ownBlock = some kk → kk < w5.heap.size := fun kk hkk => (HO5.out.lt kk hkk).2
        have hP : El w6 w.heap.size u7.ownBlock (.slice pa m pcap) := ⟨pa, m, pcap, fa, rfl, hrd, hm5, hblk.imp id fun ⟨b, off, e, hlo⟩ => ⟨b, off, e, by omega, fun ee => by have := hElt b ee.symm; omega⟩⟩
        have hnew := heap_alloc_new w6 (.cells #[.slice pa m pcap] 29)
        have hO7 := hOw.alloc (.cells #[.slice pa m pcap] 29)
        have HE7 : Hid (∀ e ∈ LS ++ [.slice pa m pcap], El (w6.alloc (.cells #[.slice pa m pcap] 29)) w.heap.size u7.ownBlock e) := fun e he => by
          rcases List.mem_append.1 he with h | h
          · exact ((HE5.out e h).beside hb6 hB).below (bel_one _ _)
          · have : e = .slice pa m pcap := by simpa using h
            subst this
            exact hP.below (bel_one _ _)
        have HR7 := Hid.mk' (hR6.alloc (.cells #[.slice pa m pcap] 29))
        have HB7 := Hid.mk' ((HB5.out.trans hb6).alloc (.cells #[.slice pa m pcap] 29))
        have HLt : Hid (∀ kk, u7.ownBlock = some kk → w.heap.size ≤ kk) := fun kk hkk => (HO5.out.lt kk hkk).1
        have hnews : ∀ jj u, [Value.slice pa m pcap][jj]? = some u → (w6.alloc (.cells #[.slice pa m pcap] 29)).cell? ((⟨w6.heap.size, 0, none⟩ : Addr).add jj) = some u := World.news_of_block hnew
        have hone : ∀ u ∈ [Value.slice pa m pcap], u.oneCell' = true := fun u hu => by
          have : u = .slice pa m pcap := by simpa using hu
          subst this; rfl
        have hbase : w.heap.size ≤ (w6.alloc (.cells #[.slice pa m pcap] 29)).heap.size := by have := hb6.size; simp; omega
        have hmax : LS.length + 1 ≤ maxLen := by unfold maxLen; omega
        clear hP hElt hnew hOw hrd hblk hR6 hb6
        go_wp2_with (at_builtin; refine wpList_append_lies _ rfl (.tmp 66) (.tmp 69) 23 rfl w.heap.size 29 tI _ 1 24 Try.underlying23 hi0 hz0 hz1 hz2 rfl (by omega) _ LS.length LS rfl hO7 ⟨w6.heap.size, 0, none⟩ 1 1 [.slice pa m pcap] rfl rfl hnews hone (by omega) hmax (by omega) hbase _ rfl ?_; intro g0 cap0 w7 hown1 hgrow hat hlt1)
        have HO8 := Hid.mk' hown1
        have HR8 := Hid.mk' (HR7.out.grown hgrow (fun kk hkk => by have := HLt.out kk hkk; omega))
        have HB8 := Hid.mk' (HB7.out.grown hgrow HLt.out)
        have HE8 : Hid (∀ e ∈ LS ++ [.slice pa m pcap], El w7 w.heap.size (some g0) e) := fun e he => (HE7.out e he).grown hgrow hat (Nat.le_refl _)
        clear hown1 hgrow hat hlt1
        go_ret
        exact ⟨_, LS ++ [.slice pa m pcap], q6, rfl, by rw [List.length_append]; exact HO8.out, by simp; omega, HE8.out, by omega, HR8.out, HB8.out⟩
      · have hxb : (x == 0) = false := by simp [hx]
        go_wp2
        go_ret
        exact ⟨_, LS, q + 1, rfl, HO5.out, by omega, HE5.out, by omega, HR5.out, HB5.out⟩
end Go.Proofs.Ytbkighpmkadmmaa
namespace Go.Proofs.Ytbkighpmkadmmaa
open Go.RowKit
set_option linter.unusedVariables false

/-! pairs of numbers as one -/
def prN : Nat → Nat → Nat
  | 0, c => 2 * c
  | a + 1, c => 2 * prN a c + 1
def unN (n : Nat) : Nat × Nat := if h : n % 2 = 0 then (0, n / 2) else ((unN (n / 2)).1 + 1, (unN (n / 2)).2)
termination_by n
decreasing_by all_goals omega
theorem un_pr : ∀ a c, unN (prN a c) = (a, c)
  | 0, c => by unfold unN prN; rw [dif_pos (by omega), show 2 * c / 2 = c by omega]
  | a + 1, c => by
    have ih := un_pr a c
    unfold unN prN
    rw [dif_neg (by omega), show (2 * prN a c + 1) / 2 = prN a c by omega, ih]
theorem pr_un (n : Nat) : prN (unN n).1 (unN n).2 = n := by
  induction n using Nat.strongRecOn with
  | ind n ih =>
    unfold unN
    by_cases h : n % 2 = 0
    · rw [dif_pos h]; show 2 * (n / 2) = n; omega
    · rw [dif_neg h]
      have := ih (n / 2) (by omega)
      show 2 * prN (unN (n / 2)).1 (unN (n / 2)).2 + 1 = n
      rw [this]; omega
def lfN (n : Nat) : Nat := (unN n).1
def rtN (n : Nat) : Nat := (unN n).2
theorem lf_pr (a c : Nat) : lfN (prN a c) = a := by unfold lfN; rw [un_pr]
theorem rt_pr (a c : Nat) : rtN (prN a c) = c := by unfold rtN; rw [un_pr]
theorem pr_lr (n : Nat) : prN (lfN n) (rtN n) = n := pr_un n
def rX : Lq := ⟨fun u n k => u (prN (lfN n + 1) (rtN n)) k, fun _ _ => rfl, fun _ _ => rfl⟩
def rY : Lq := ⟨fun u n k => u n (prN (lfN k + 1) (rtN k)), fun _ _ => rfl, fun _ _ => rfl⟩
def rD : Lq := ⟨fun u n k => u (prN (lfN n) (rtN n + 1)) k + nf (lfN n) * u (prN (lfN n - 1) (rtN n)) k, fun u v => by funext n k; simp only [va]; grind, fun c u => by funext n k; simp only [vs]; grind⟩
def rE : Lq := ⟨fun u n k => u n (prN (lfN k) (rtN k + 1)) + nf (lfN k) * u n (prN (lfN k - 1) (rtN k)), fun u v => by funext n k; simp only [va]; grind, fun c u => by funext n k; simp only [vs]; grind⟩
def regG : Gen where
  x := rX
  y := rY
  d := rD
  e := rE
  wx := Lq.ext fun u n k => by
    show u (prN (lfN (prN (lfN n + 1) (rtN n))) (rtN (prN (lfN n + 1) (rtN n)) + 1)) k + nf (lfN (prN (lfN n + 1) (rtN n))) * u (prN (lfN (prN (lfN n + 1) (rtN n)) - 1) (rtN (prN (lfN n + 1) (rtN n)))) k = u (prN (lfN (prN (lfN n) (rtN n + 1)) + 1) (rtN (prN (lfN n) (rtN n + 1)))) k + nf (lfN n) * u (prN (lfN (prN (lfN n - 1) (rtN n)) + 1) (rtN (prN (lfN n - 1) (rtN n)))) k + u n k
    simp only [lf_pr, rt_pr]
    rw [show lfN n + 1 - 1 = lfN n by omega, pr_lr, nf_add, nf_one]
    cases h : lfN n with
    | zero => rw [nf_zero]; grind
    | succ m => rw [show m + 1 - 1 + 1 = m + 1 by omega, ← h, pr_lr]; grind
  wy := Lq.ext fun u n k => by
    show u n (prN (lfN (prN (lfN k + 1) (rtN k))) (rtN (prN (lfN k + 1) (rtN k)) + 1)) + nf (lfN (prN (lfN k + 1) (rtN k))) * u n (prN (lfN (prN (lfN k + 1) (rtN k)) - 1) (rtN (prN (lfN k + 1) (rtN k)))) = u n (prN (lfN (prN (lfN k) (rtN k + 1)) + 1) (rtN (prN (lfN k) (rtN k + 1)))) + nf (lfN k) * u n (prN (lfN (prN (lfN k - 1) (rtN k)) + 1) (rtN (prN (lfN k - 1) (rtN k)))) + u n k
    simp only [lf_pr, rt_pr]
    rw [show lfN k + 1 - 1 = lfN k by omega, pr_lr, nf_add, nf_one]
    cases h : lfN k with
    | zero => rw [nf_zero]; grind
    | succ m => rw [show m + 1 - 1 + 1 = m + 1 by omega, ← h, pr_lr]; grind
  xy := rfl
  xe := rfl
  dy := rfl
  de := Lq.ext fun u n k => by
    show (_ + nf _ * _) + nf (lfN k) * (_ + nf _ * _) = (_ + nf _ * _) + nf (lfN n) * (_ + nf _ * _)
    grind
theorem pow_rX (u : Vq) (c k : Nat) : ∀ j i, (Lq.pow rX j).f u (prN i c) k = u (prN (i + j) c) k
  | 0, i => rfl
  | j + 1, i => by
    rw [Lq.pow_succ']
    show (Lq.pow rX j).f (rX.f u) (prN i c) k = _
    rw [pow_rX (rX.f u) c k j i]
    show u (prN (lfN (prN (i + j) c) + 1) (rtN (prN (i + j) c))) k = _
    rw [lf_pr, rt_pr]; rfl
theorem pow_rY (u : Vq) (n c : Nat) : ∀ j i, (Lq.pow rY j).f u n (prN i c) = u n (prN (i + j) c)
  | 0, i => rfl
  | j + 1, i => by
    rw [Lq.pow_succ']
    show (Lq.pow rY j).f (rY.f u) n (prN i c) = _
    rw [pow_rY (rY.f u) n c j i]
    show u n (prN (lfN (prN (i + j) c) + 1) (rtN (prN (i + j) c))) = _
    rw [lf_pr, rt_pr]; rfl
theorem pow_rD (u : Vq) (k : Nat) : ∀ j i, (Lq.pow rD j).f u (prN 0 i) k = u (prN 0 (i + j)) k
  | 0, i => rfl
  | j + 1, i => by
    rw [Lq.pow_succ']
    show (Lq.pow rD j).f (rD.f u) (prN 0 i) k = _
    rw [pow_rD (rD.f u) k j i]
    show u (prN (lfN (prN 0 (i + j))) (rtN (prN 0 (i + j)) + 1)) k + nf (lfN (prN 0 (i + j))) * _ = _
    rw [lf_pr, rt_pr, nf_zero]
    show u (prN 0 (i + (j + 1))) k + 0 * _ = _
    grind
theorem pow_rE (u : Vq) (n : Nat) : ∀ j i, (Lq.pow rE j).f u n (prN 0 i) = u n (prN 0 (i + j))
  | 0, i => rfl
  | j + 1, i => by
    rw [Lq.pow_succ']
    show (Lq.pow rE j).f (rE.f u) n (prN 0 i) = _
    rw [pow_rE (rE.f u) n j i]
    show u n (prN (lfN (prN 0 (i + j))) (rtN (prN 0 (i + j)) + 1)) + nf (lfN (prN 0 (i + j))) * _ = _
    rw [lf_pr, rt_pr, nf_zero]
    show u n (prN 0 (i + (j + 1))) + 0 * _ = _
    grind
/-- what a monomial makes of 1. -/
theorem mo_reg (m : M) (u : Vq) : (mo regG m).f u 0 0 = u (prN m.x.toNat m.d.toNat) (prN m.y.toNat m.e.toNat) := by
  have e0 : (0 : Nat) = prN 0 0 := rfl
  show (Lq.pow rE m.e.toNat).f ((Lq.pow rD m.d.toNat).f ((Lq.pow rY m.y.toNat).f ((Lq.pow rX m.x.toNat).f u))) 0 0 = _
  rw [show (Lq.pow rE m.e.toNat).f ((Lq.pow rD m.d.toNat).f ((Lq.pow rY m.y.toNat).f ((Lq.pow rX m.x.toNat).f u))) 0 0 = (Lq.pow rE m.e.toNat).f ((Lq.pow rD m.d.toNat).f ((Lq.pow rY m.y.toNat).f ((Lq.pow rX m.x.toNat).f u))) 0 (prN 0 0) from rfl, pow_rE]
  rw [show (Lq.pow rD m.d.toNat).f ((Lq.pow rY m.y.toNat).f ((Lq.pow rX m.x.toNat).f u)) 0 (prN 0 (0 + m.e.toNat)) = (Lq.pow rD m.d.toNat).f ((Lq.pow rY m.y.toNat).f ((Lq.pow rX m.x.toNat).f u)) (prN 0 0) (prN 0 (0 + m.e.toNat)) from rfl, pow_rD, pow_rY, pow_rX]
  simp only [Nat.zero_add]
/-- monomials with no number below 0. -/
def M.nn (m : M) : Prop := 0 ≤ m.x ∧ 0 ≤ m.y ∧ 0 ≤ m.d ∧ 0 ≤ m.e
theorem M.nn_ok {m : M} (h : m.ok = true) : m.nn := by
  obtain ⟨x1, x2, y1, y2, d1, d2, e1, e2⟩ := M.ok_iff.1 h
  exact ⟨x1, y1, d1, e1⟩
theorem M.nn_sum {a b : M} (ha : a.nn) (hb : b.nn) : (a.sum b).nn := by
  obtain ⟨a1, a2, a3, a4⟩ := ha
  obtain ⟨b1, b2, b3, b4⟩ := hb
  exact ⟨Int.add_nonneg a1 b1, Int.add_nonneg a2 b2, Int.add_nonneg a3 b3, Int.add_nonneg a4 b4⟩
def dlu (m : M) : Vq := fun n k => if n = prN m.x.toNat m.d.toNat ∧ k = prN m.y.toNat m.e.toNat then 1 else 0
/-- the number of a monomial in an operator that is a map. -/
def cfR (A : Lq) (m : M) : Fq := A.f (dlu m) 0 0
theorem cf_mo {a m : M} (ha : a.nn) (hm : m.nn) : cfR (mo regG a) m = dl m a := by
  unfold cfR dl
  rw [mo_reg]
  unfold dlu
  by_cases e : a = m
  · rw [if_pos (meqB_eq.2 e.symm), if_pos (by rw [e]; exact ⟨rfl, rfl⟩)]
  · rw [if_neg (fun h => e (meqB_eq.1 h).symm), if_neg]
    rintro ⟨h1, h2⟩
    have i1 := un_pr a.x.toNat a.d.toNat
    rw [h1, un_pr] at i1
    have i2 := un_pr a.y.toNat a.e.toNat
    rw [h2, un_pr] at i2
    simp only [Prod.mk.injEq] at i1 i2
    obtain ⟨a1, a2, a3, a4⟩ := ha
    obtain ⟨b1, b2, b3, b4⟩ := hm
    refine e ?_
    have j1 : a.x = m.x := by omega
    have j2 : a.y = m.y := by omega
    have j3 : a.d = m.d := by omega
    have j4 : a.e = m.e := by omega
    cases a; cases m
    simp only at j1 j2 j3 j4
    rw [j1, j2, j3, j4]
theorem cf_sum (A B : Lq) (m : M) : cfR (Lq.sum A B) m = cfR A m + cfR B m := rfl
theorem cf_sc (c : Fq) (A : Lq) (m : M) : cfR (Lq.sc c A) m = c * cfR A m := rfl
theorem cf_nil (m : M) : cfR Lq.nil m = 0 := rfl
/-! products of monomials -/
/-- the order of monomials, without bounds. -/
def kf (o : Int) (a : M) : Int := if o = 1 then a.x + a.y + a.d + a.e else if o = 3 then a.d + a.x else 0
def klt (o : Int) (a b : M) : Prop := kf o a < kf o b ∨ (kf o a = kf o b ∧ (a.d < b.d ∨ (a.d = b.d ∧ (a.e < b.e ∨ (a.e = b.e ∧ (a.x < b.x ∨ (a.x = b.x ∧ a.y < b.y)))))))
theorem kf1 (a : M) : kf 1 a = a.x + a.y + a.d + a.e := if_pos rfl
theorem kf2 (a : M) : kf 2 a = 0 := (if_neg (by decide)).trans (if_neg (by decide))
theorem kf3 (a : M) : kf 3 a = a.d + a.x := (if_neg (by decide)).trans (if_pos rfl)
theorem rkK1 (a : M) : rkW 1 a = rkD a := if_pos rfl
theorem rkK2 (a : M) : rkW 2 a = rkL a := (if_neg (by decide)).trans (if_neg (by decide))
theorem rkK3 (a : M) : rkW 3 a = rkO a := (if_neg (by decide)).trans (if_pos rfl)
theorem kf_sum (o : Int) (a b : M) : kf o (a.sum b) = kf o a + kf o b := by
  unfold kf M.sum
  split
  · simp only; omega
  · split
    · simp only; omega
    · rfl
theorem klt_trans {o : Int} {a b c : M} (h1 : klt o a b) (h2 : klt o b c) : klt o a c := by
  unfold klt at *
  generalize kf o a = p at *
  generalize kf o b = q at *
  generalize kf o c = r at *
  omega
theorem klt_irr {o : Int} {a : M} (h : klt o a a) : False := by
  unfold klt at h
  omega
theorem M.eta4 {a b : M} (h1 : a.x = b.x) (h2 : a.y = b.y) (h3 : a.d = b.d) (h4 : a.e = b.e) : a = b := by
  cases a; cases b
  simp only at h1 h2 h3 h4
  rw [h1, h2, h3, h4]
theorem klt_add {o : Int} {a b : M} (c : M) (h : klt o a b) : klt o (a.sum c) (b.sum c) := by
  unfold klt at *
  rw [kf_sum, kf_sum]
  unfold M.sum
  simp only
  generalize kf o a = p at *
  generalize kf o b = q at *
  omega
theorem klt_add' {o : Int} {a b : M} (c : M) (h : klt o a b) : klt o (c.sum a) (c.sum b) := by
  unfold klt at *
  rw [kf_sum, kf_sum]
  unfold M.sum
  simp only
  generalize kf o a = p at *
  generalize kf o b = q at *
  omega
/-- what is lower than the whole product. -/
theorem klt_low {o : Int} (ho : 1 ≤ o ∧ o ≤ 3) (a b : M) {i k : Int} (hi : 0 ≤ i) (hk : 0 ≤ k) (h : 0 < i + k) : klt o ⟨a.x + b.x - i, a.y + b.y - k, a.d + b.d - i, a.e + b.e - k⟩ (a.sum b) := by
  have h3 : o = 1 ∨ o = 2 ∨ o = 3 := by omega
  unfold klt
  rcases h3 with rfl | rfl | rfl
  · rw [kf1, kf1]; unfold M.sum; simp only; omega
  · rw [kf2, kf2]
    unfold M.sum
    simp only
    by_cases hi0 : i = 0
    · exact .inr ⟨trivial, .inr ⟨by omega, .inl (by omega)⟩⟩
    · exact .inr ⟨trivial, .inl (by omega)⟩
  · rw [kf3, kf3]
    unfold M.sum
    simp only
    by_cases hi0 : i = 0
    · exact .inr ⟨by omega, .inr ⟨by omega, .inl (by omega)⟩⟩
    · exact .inl (by omega)
theorem rkW_klt {o : Int} (ho : 1 ≤ o ∧ o ≤ 3) {a b : M} (ha : a.ok = true) (hb : b.ok = true) (h : rkW o a < rkW o b) : klt o a b := by
  obtain ⟨x1, x2, y1, y2, d1, d2, e1, e2⟩ := M.ok_iff.1 ha
  obtain ⟨x3, x4, y3, y4, d3, d4, e3, e4⟩ := M.ok_iff.1 hb
  have h3 : o = 1 ∨ o = 2 ∨ o = 3 := by omega
  unfold klt
  rcases h3 with rfl | rfl | rfl
  · rw [rkK1, rkK1] at h; rw [kf1, kf1]; unfold rkD rkL at h; omega
  · rw [rkK2, rkK2] at h; rw [kf2, kf2]; unfold rkL at h; omega
  · rw [rkK3, rkK3] at h; rw [kf3, kf3]; unfold rkO rkL at h; omega
end Go.Proofs.Ytbkighpmkadmmaa
namespace Go.Proofs.Ytbkighpmkadmmaa
open Go.RowKit
set_option linter.unusedVariables false

/-! products of monomials without bounds -/
def lmM (a b : M) (i k : Nat) : M := ⟨a.x + b.x - (i : Int), a.y + b.y - (k : Int), a.d + b.d - (i : Int), a.e + b.e - (k : Int)⟩
theorem lmM_zero (a b : M) : lmM a b 0 0 = a.sum b := by
  unfold lmM M.sum
  simp
theorem moN_mul (g : Gen) (a b : M) (ha : a.nn) (hb : b.nn) : Lq.mul (mo g a) (mo g b) = Lq.sumN (fun i => Lq.sumN (fun k => Lq.sc (nf (wN a.d.toNat b.x.toNat i) * nf (wN a.e.toNat b.y.toNat k)) (mo g (lmM a b i k))) (min a.e.toNat b.y.toNat + 1)) (min a.d.toNat b.x.toNat + 1) := by
  obtain ⟨ax0, ay0, ad0, ae0⟩ := ha
  obtain ⟨bx0, by0, bd0, be0⟩ := hb
  have e1 : Lq.mul (mo g a) (mo g b) = Lq.mul (Lq.mul (Lq.pow g.x a.x.toNat) (Lq.pow g.y a.y.toNat)) (Lq.mul (Lq.mul (Lq.pow g.d a.d.toNat) (Lq.pow g.x b.x.toNat)) (Lq.mul (Lq.mul (Lq.pow g.e a.e.toNat) (Lq.pow g.y b.y.toNat)) (Lq.mul (Lq.pow g.d b.d.toNat) (Lq.pow g.e b.e.toNat)))) := by
    have h := g.xe.symm.pows a.e.toNat b.x.toNat
    calc _ = Lq.mul (Lq.mul (Lq.pow g.x a.x.toNat) (Lq.pow g.y a.y.toNat)) (Lq.mul (Lq.pow g.d a.d.toNat) (Lq.mul (Lq.mul (Lq.pow g.e a.e.toNat) (Lq.pow g.x b.x.toNat)) (Lq.mul (Lq.pow g.y b.y.toNat) (Lq.mul (Lq.pow g.d b.d.toNat) (Lq.pow g.e b.e.toNat))))) := rfl
      _ = Lq.mul (Lq.mul (Lq.pow g.x a.x.toNat) (Lq.pow g.y a.y.toNat)) (Lq.mul (Lq.pow g.d a.d.toNat) (Lq.mul (Lq.mul (Lq.pow g.x b.x.toNat) (Lq.pow g.e a.e.toNat)) (Lq.mul (Lq.pow g.y b.y.toNat) (Lq.mul (Lq.pow g.d b.d.toNat) (Lq.pow g.e b.e.toNat))))) := by rw [h]
      _ = _ := rfl
  rw [e1, order_cut g.wx, order_cut g.wy, Lq.sumN_mul, Lq.mul_sumN]
  refine Lq.sumN_congr (fun i hi => ?_)
  rw [Lq.sc_mul, Lq.mul_sc, Lq.sumN_mul, Lq.mul_sumN, Lq.mul_sumN, Lq.sc_sumN]
  refine Lq.sumN_congr (fun k hk => ?_)
  rw [Lq.sc_mul, Lq.mul_sc, Lq.mul_sc, Lq.sc_sc, shuffle (g.xy.symm.pows _ _) (g.dy.pows _ _) (g.de.symm.pows _ _), ← Lq.pow_add, ← Lq.pow_add, ← Lq.pow_add, ← Lq.pow_add]
  unfold mo lmM
  simp only
  rw [show a.x.toNat + (b.x.toNat - i) = (a.x + b.x - (i : Int)).toNat by omega, show a.y.toNat + (b.y.toNat - k) = (a.y + b.y - (k : Int)).toNat by omega, show a.d.toNat - i + b.d.toNat = (a.d + b.d - (i : Int)).toNat by omega, show a.e.toNat - k + b.e.toNat = (a.e + b.e - (k : Int)).toNat by omega]
theorem wN_zero (b c : Nat) : wN b c 0 = 1 := by unfold wN; rw [chN_zero]; rfl
/-- Lq's below a sum: all that stands in it is lower. -/
inductive Lw (g : Gen) (o : Int) (μ : M) : Lq → Prop
  | nil : Lw g o μ Lq.nil
  | cons {A : Lq} (c : Fq) (m : M) : m.nn → klt o m μ → Lw g o μ A → Lw g o μ (Lq.sum (Lq.sc c (mo g m)) A)
theorem Lw.sum {g : Gen} {o : Int} {μ : M} {A B : Lq} (h : Lw g o μ A) (h' : Lw g o μ B) : Lw g o μ (Lq.sum A B) := by
  induction h with
  | nil => rw [Lq.sum_comm, Lq.sum_nil]; exact h'
  | cons c m h1 h2 h3 ih => rw [Lq.sum_assoc]; exact Lw.cons c m h1 h2 ih
theorem Lw.one {g : Gen} {o : Int} {μ : M} (c : Fq) {m : M} (h1 : m.nn) (h2 : klt o m μ) : Lw g o μ (Lq.sc c (mo g m)) := by
  have := Lw.cons (g := g) c m h1 h2 Lw.nil
  rwa [Lq.sum_nil] at this
theorem Lw.sumN {g : Gen} {o : Int} {μ : M} {f : Nat → Lq} : ∀ n, (∀ i, i < n → Lw g o μ (f i)) → Lw g o μ (Lq.sumN f n)
  | 0, _ => Lw.nil
  | n + 1, h => by rw [Lq.sumN]; exact (Lw.sumN n (fun i hi => h i (by omega))).sum (h n (by omega))
/-- a product of monomials is both together, and what is lower. -/
theorem mo_low (g : Gen) {o : Int} (ho : 1 ≤ o ∧ o ≤ 3) {a b : M} (ha : a.nn) (hb : b.nn) : ∃ A, Lw g o (a.sum b) A ∧ Lq.mul (mo g a) (mo g b) = Lq.sum (mo g (a.sum b)) A := by
  have hnn : ∀ i k : Nat, i < min a.d.toNat b.x.toNat + 1 → k < min a.e.toNat b.y.toNat + 1 → (lmM a b i k).nn := fun i k hi hk => by
    obtain ⟨ax0, ay0, ad0, ae0⟩ := ha
    obtain ⟨bx0, by0, bd0, be0⟩ := hb
    refine ⟨?_, ?_, ?_, ?_⟩ <;> (unfold lmM; simp only; omega)
  have hlt : ∀ i k : Nat, 0 < i + k → klt o (lmM a b i k) (a.sum b) := fun i k h => klt_low ho a b (by omega) (by omega) (by omega)
  rw [moN_mul g a b ha hb, Lq.sumN_head, Lq.sumN_head]
  refine ⟨Lq.sum (Lq.sumN (fun i => Lq.sc (nf (wN a.d.toNat b.x.toNat 0) * nf (wN a.e.toNat b.y.toNat (i + 1))) (mo g (lmM a b 0 (i + 1)))) (min a.e.toNat b.y.toNat)) (Lq.sumN (fun i => Lq.sumN (fun k => Lq.sc (nf (wN a.d.toNat b.x.toNat (i + 1)) * nf (wN a.e.toNat b.y.toNat k)) (mo g (lmM a b (i + 1) k))) (min a.e.toNat b.y.toNat + 1)) (min a.d.toNat b.x.toNat)), ?_, ?_⟩
  · refine Lw.sum (Lw.sumN _ (fun i hi => Lw.one _ (hnn _ _ (by omega) (by omega)) (hlt _ _ (by omega)))) (Lw.sumN _ (fun i hi => Lw.sumN _ (fun k hk => Lw.one _ (hnn _ _ (by omega) (by omega)) (hlt _ _ (by omega)))))
  · rw [Lq.sum_assoc, wN_zero, wN_zero, nf_one, lmM_zero, show (1 : Fq) * 1 = 1 from rfl, Lq.sc_one]
theorem Lw.cf {o : Int} {μ m : M} {A : Lq} (h : Lw regG o μ A) (hm : m.nn) (hl : ¬ klt o m μ) : cfR A m = 0 := by
  induction h with
  | nil => exact cf_nil m
  | cons c a h1 h2 h3 ih =>
    rw [cf_sum, cf_sc, ih, cf_mo h1 hm]
    unfold dl
    rw [if_neg]
    · grind
    · intro e
      rw [meqB_eq.1 e] at hl
      exact hl h2
/-! the list, and what is made of it -/
variable (o : Int) (n : Nat) (L : Nat → List T)
def lmL (j : Nat) : M := (ldL o (L j)).m
/-- a list with greatest terms. -/
structure Lds : Prop where
  ho : 1 ≤ o ∧ o ≤ 3
  fl : ∀ j, j < n → okL (L j) = true ∧ (L j).length ≠ 0
variable {o n L}
theorem Lds.mem (h : Lds o n L) {j : Nat} (hj : j < n) : ldL o (L j) ∈ L j := ldL_mem (h.fl j hj).2
theorem Lds.falls (h : Lds o n L) {j : Nat} (hj : j < n) : Falls (L j) := (okL_falls (h.fl j hj).1).2
theorem Lds.good (h : Lds o n L) {j : Nat} (hj : j < n) : (ldL o (L j)).m.ok = true ∧ 1 ≤ (ldL o (L j)).c ∧ (ldL o (L j)).c ≤ 100 := (h.falls hj).2 _ (h.mem hj)
theorem Lds.nn (h : Lds o n L) {j : Nat} (hj : j < n) : (lmL o L j).nn := M.nn_ok (h.good hj).1
theorem Lds.top (h : Lds o n L) {j : Nat} (hj : j < n) {t : T} (ht : t ∈ L j) (hne : t.m ≠ lmL o L j) : klt o t.m (lmL o L j) := by
  have h1 := ldL_top h.ho (h.fl j hj).1 (h.fl j hj).2 t ht
  have h2 := ((h.falls hj).2 t ht).1
  have h3 := (h.good hj).1
  refine rkW_klt h.ho h2 h3 ?_
  rcases Int.lt_or_eq_of_le h1 with h4 | h4
  · exact h4
  · exact absurd (rkW_inj _ _ h2 h3 h4) hne
theorem cf_mulRp (A : Lq) (m : M) : ∀ K : List T, cfR (Lq.mul A (Rp regG K)) m = su K (fun t => zz t.c * cfR (Lq.mul A (mo regG t.m)) m)
  | [] => rfl
  | t :: r => by
    rw [su, ← cf_mulRp A m r]
    rfl
theorem Lds.cf_off (h : Lds o n L) {j : Nat} (hj : j < n) {m δ : M} (hm : m.nn) (hδ : δ.nn) (hl : klt o (m.sum (lmL o L j)) δ) : cfR (Lq.mul (mo regG m) (Rp regG (L j))) δ = 0 := by
  rw [cf_mulRp]
  refine su_zero _ _ (fun t ht => ?_)
  have h4 := M.nn_ok ((h.falls hj).2 t ht).1
  obtain ⟨A, h1, h2⟩ := mo_low regG h.ho hm h4
  have h3 : klt o (m.sum t.m) δ := by
    by_cases e : t.m = lmL o L j
    · rw [e]; exact hl
    · exact klt_trans (klt_add' m (h.top hj ht e)) hl
  rw [h2, cf_sum, h1.cf hδ (fun q => klt_irr (klt_trans q h3)), cf_mo (M.nn_sum hm h4) hδ]
  unfold dl
  rw [if_neg]
  · grind
  · intro q
    rw [meqB_eq.1 q] at h3
    exact klt_irr h3
/-- what is made of the list with nothing as great as δ. -/
inductive Lo (o : Int) (n : Nat) (L : Nat → List T) (δ : M) : Lq → Prop
  | nil : Lo o n L δ Lq.nil
  | cons {A : Lq} (c : Fq) (m : M) (j : Nat) : j < n → m.nn → klt o (m.sum (lmL o L j)) δ → Lo o n L δ A → Lo o n L δ (Lq.sum (Lq.sc c (Lq.mul (mo regG m) (Rp regG (L j)))) A)
theorem Lo.sum {δ : M} {A B : Lq} (h : Lo o n L δ A) (h' : Lo o n L δ B) : Lo o n L δ (Lq.sum A B) := by
  induction h with
  | nil => rw [Lq.sum_comm, Lq.sum_nil]; exact h'
  | cons c m j h1 h2 h3 h4 ih => rw [Lq.sum_assoc]; exact Lo.cons c m j h1 h2 h3 ih
theorem Lo.sc {δ : M} {A : Lq} (d : Fq) (h : Lo o n L δ A) : Lo o n L δ (Lq.sc d A) := by
  induction h with
  | nil =>
    rw [show Lq.sc d Lq.nil = Lq.nil from Lq.ext fun u n k => by show d * (0 : Fq) = 0; grind]
    exact Lo.nil
  | cons c m j h1 h2 h3 h4 ih => rw [Lq.sc_sum, Lq.sc_sc]; exact Lo.cons _ m j h1 h2 h3 ih
theorem Lo.mono {δ δ' : M} {A : Lq} (h : Lo o n L δ A) (hd : klt o δ δ' ∨ δ = δ') : Lo o n L δ' A := by
  induction h with
  | nil => exact Lo.nil
  | cons c m j h1 h2 h3 h4 ih =>
    refine Lo.cons c m j h1 h2 ?_ ih
    rcases hd with hd | hd
    · exact klt_trans h3 hd
    · rw [← hd]; exact h3
theorem Lo.one {δ : M} (c : Fq) {m : M} {j : Nat} (h1 : j < n) (h2 : m.nn) (h3 : klt o (m.sum (lmL o L j)) δ) : Lo o n L δ (Lq.sc c (Lq.mul (mo regG m) (Rp regG (L j)))) := by
  have := Lo.cons c m j h1 h2 h3 (Lo.nil (o := o) (n := n) (L := L) (δ := δ))
  rwa [Lq.sum_nil] at this
/-- what is lower, times one of the list. -/
theorem Lw.lo {μ δ : M} {A : Lq} {j : Nat} (hj : j < n) (h : Lw regG o μ A) (hd : klt o (μ.sum (lmL o L j)) δ ∨ μ.sum (lmL o L j) = δ) : Lo o n L δ (Lq.mul A (Rp regG (L j))) := by
  induction h with
  | nil => rw [Lq.nil_mul]; exact Lo.nil
  | cons c m h1 h2 h3 ih =>
    rw [Lq.sum_mul, Lq.sc_mul]
    refine Lo.cons c m j hj h1 ?_ ih
    rcases hd with hd | hd
    · exact klt_trans (klt_add _ h2) hd
    · rw [← hd]; exact klt_add _ h2
/-- a monomial, times what is made of the list. -/
theorem Lo.mul (hL : Lds o n L) {δ s : M} {A : Lq} (hs : s.nn) (h : Lo o n L δ A) : Lo o n L (s.sum δ) (Lq.mul (mo regG s) A) := by
  induction h with
  | nil => rw [Lq.mul_nil]; exact Lo.nil
  | cons c m j h1 h2 h3 h4 ih =>
    rw [Lq.mul_sum, Lq.mul_sc, ← Lq.mul_assoc]
    obtain ⟨B, hB, e⟩ := mo_low regG hL.ho hs h2
    rw [e, Lq.sum_mul]
    have has : (s.sum m).sum (lmL o L j) = s.sum (m.sum (lmL o L j)) := by
      unfold M.sum
      refine M.eta4 ?_ ?_ ?_ ?_ <;> (simp only; omega)
    have h5 : klt o ((s.sum m).sum (lmL o L j)) (s.sum δ) := by rw [has]; exact klt_add' s h3
    refine Lo.sum (Lo.sc c (Lo.sum ?_ (hB.lo h1 (.inl h5)))) ih
    have := Lo.one (o := o) (n := n) (L := L) (δ := s.sum δ) 1 h1 (M.nn_sum hs h2) h5
    rwa [Lq.sc_one] at this
/-- who divides whom, without bounds. -/
def M.le (a b : M) : Prop := a.x ≤ b.x ∧ a.y ≤ b.y ∧ a.d ≤ b.d ∧ a.e ≤ b.e
def M.sub (b a : M) : M := ⟨b.x - a.x, b.y - a.y, b.d - a.d, b.e - a.e⟩
theorem M.sub_sum {a b : M} : (M.sub b a).sum a = b := by
  unfold M.sub M.sum
  refine M.eta4 ?_ ?_ ?_ ?_ <;> (simp only; omega)
theorem M.sub_nn {a b : M} (h : M.le a b) : (M.sub b a).nn := by
  obtain ⟨h1, h2, h3, h4⟩ := h
  unfold M.sub
  exact ⟨by simp only; omega, by simp only; omega, by simp only; omega, by simp only; omega⟩
/-- terms as great as δ. -/
def tv (o : Int) (L : Nat → List T) (δ : M) : List (Fq × Nat) → Lq
  | [] => Lq.nil
  | (c, j) :: r => Lq.sum (Lq.sc c (Lq.mul (mo regG (M.sub δ (lmL o L j))) (Rp regG (L j)))) (tv o L δ r)
theorem Lo.cf0 (hL : Lds o n L) {δ : M} {A : Lq} (hδ : δ.nn) (h : Lo o n L δ A) : cfR A δ = 0 := by
  induction h with
  | nil => exact cf_nil δ
  | cons c m j h1 h2 h3 h4 ih => rw [cf_sum, cf_sc, hL.cf_off h1 h2 hδ h3, ih]; grind
/-- what both divide. -/
def M.lcm (a b : M) : M := ⟨if a.x ≤ b.x then b.x else a.x, if a.y ≤ b.y then b.y else a.y, if a.d ≤ b.d then b.d else a.d, if a.e ≤ b.e then b.e else a.e⟩
theorem M.le_lcm (a b : M) : M.le a (M.lcm a b) ∧ M.le b (M.lcm a b) := by
  unfold M.le M.lcm
  simp only
  refine ⟨⟨?_, ?_, ?_, ?_⟩, ?_, ?_, ?_, ?_⟩ <;> (split <;> omega)
theorem M.lcm_le {a b c : M} (h1 : M.le a c) (h2 : M.le b c) : M.le (M.lcm a b) c := by
  obtain ⟨a1, a2, a3, a4⟩ := h1
  obtain ⟨b1, b2, b3, b4⟩ := h2
  unfold M.le M.lcm
  simp only
  refine ⟨?_, ?_, ?_, ?_⟩ <;> (split <;> omega)
/-- nothing is left of a pair but what is smaller. -/
def Pair (o : Int) (n : Nat) (L : Nat → List T) (i k : Nat) : Prop := ∀ u v : Fq, u * zz (ldL o (L i)).c = 1 → v * zz (ldL o (L k)).c = 1 → Lo o n L (M.lcm (lmL o L i) (lmL o L k)) (Lq.sum (Lq.sc u (Lq.mul (mo regG (M.sub (M.lcm (lmL o L i) (lmL o L k)) (lmL o L i))) (Rp regG (L i)))) (Lq.sc (-v) (Lq.mul (mo regG (M.sub (M.lcm (lmL o L i) (lmL o L k)) (lmL o L k))) (Rp regG (L k)))))
theorem M.sub_sub {a b c : M} : (M.sub c b).sum (M.sub b a) = M.sub c a := by
  unfold M.sub M.sum
  refine M.eta4 ?_ ?_ ?_ ?_ <;> (simp only; omega)
/-- a pair, as great as δ. -/
theorem Pair.up (hL : Lds o n L) {i k : Nat} (hi : i < n) (hk : k < n) (h : Pair o n L i k) {δ : M} (hδi : M.le (lmL o L i) δ) (hδk : M.le (lmL o L k) δ) {u v : Fq} (hu : u * zz (ldL o (L i)).c = 1) (hv : v * zz (ldL o (L k)).c = 1) : Lo o n L δ (Lq.sum (Lq.sc u (Lq.mul (mo regG (M.sub δ (lmL o L i))) (Rp regG (L i)))) (Lq.sc (-v) (Lq.mul (mo regG (M.sub δ (lmL o L k))) (Rp regG (L k))))) := by
  have hb := M.lcm_le hδi hδk
  have hs := M.sub_nn hb
  obtain ⟨l1, l2⟩ := M.le_lcm (lmL o L i) (lmL o L k)
  obtain ⟨A, a1, a2⟩ := mo_low regG hL.ho hs (M.sub_nn l1)
  obtain ⟨B, b1, b2⟩ := mo_low regG hL.ho hs (M.sub_nn l2)
  rw [M.sub_sub] at a1 a2 b1 b2
  have key := (h u v hu hv).mul hL hs
  rw [M.sub_sum] at key
  have la := (a1.lo hi (.inr (M.sub_sum))).sc (-u)
  have lb := (b1.lo hk (.inr (M.sub_sum))).sc v
  have tot := (key.sum la).sum lb
  have e : Lq.sum (Lq.sum (Lq.mul (mo regG (M.sub δ (M.lcm (lmL o L i) (lmL o L k)))) (Lq.sum (Lq.sc u (Lq.mul (mo regG (M.sub (M.lcm (lmL o L i) (lmL o L k)) (lmL o L i))) (Rp regG (L i)))) (Lq.sc (-v) (Lq.mul (mo regG (M.sub (M.lcm (lmL o L i) (lmL o L k)) (lmL o L k))) (Rp regG (L k)))))) (Lq.sc (-u) (Lq.mul A (Rp regG (L i))))) (Lq.sc v (Lq.mul B (Rp regG (L k)))) = Lq.sum (Lq.sc u (Lq.mul (mo regG (M.sub δ (lmL o L i))) (Rp regG (L i)))) (Lq.sc (-v) (Lq.mul (mo regG (M.sub δ (lmL o L k))) (Rp regG (L k)))) := by
    rw [Lq.mul_sum, Lq.mul_sc, Lq.mul_sc, ← Lq.mul_assoc, ← Lq.mul_assoc, a2, b2, Lq.sum_mul, Lq.sum_mul]
    refine Lq.ext fun w p q => ?_
    simp only [sum_f, sc_f]
    grind
  rw [e] at tot
  exact tot
/-! the order goes down but so often -/
end Go.Proofs.Ytbkighpmkadmmaa
