/-
  A draw of two operators, often the same.
-/
import Derived.Test.YtddfpjjeoojlmaaGar
namespace Go.Proofs.Ytddfpjjeoojlmaa
open Go.RowKit
set_option linter.unusedVariables false

theorem run_app0 {P : Program} {w : World} (base : Nat) (t ty e : TypeId) (i : TypeInfo) (size : Nat) (ht : P.underlying t = some (.slice e)) (hi : P.info? e = some i)
    (v : Value) (n : Nat) (xs : List Value) (hown : w.ownsRow base e size v n xs) (pa : Option Addr) (pc : Nat) :
    (Builtin.append_ #[t, t] ty #[v, .slice pa 0 pc]).run P w = .ok v w := by
  rcases hown.2 with ⟨rfl, rfl⟩ | ⟨g, cap, cur, rfl, _, _, hnc, _⟩
  · cases pa <;> simp [Builtin.append_, run_underlying ht, sizeOf, typeInfo, hi, Builtin.lenOf, Builtin.firstCells, loadCells, loadCellsFrom]
  · cases pa <;> simp [Builtin.append_, run_underlying ht, sizeOf, typeInfo, hi, Builtin.lenOf, Builtin.firstCells, hnc, storeCells, loadCells, loadCellsFrom]
theorem wpList_app0 {P : Program} {w : World} {ops : Array Oper} {rest : List Oper} {o : Oper} {a : Act} {Q : Exit → Act → World → Prop} (hgd : o.guard = none) (s x : Operand) (t : TypeId)
    (ho : o.op = .call { callee := .builtin .append, args := #[s, x], argTypes := #[t, t] })
    (base : Nat) (e : TypeId) (i : TypeInfo) (size : Nat) (ht : P.underlying t = some (.slice e)) (hi : P.info? e = some i)
    (v : Value) (n : Nat) (xs : List Value) (hs : a.eval s = v) (hown : w.ownsRow base e size v n xs) (pa : Option Addr) (pc : Nat) (hx : a.eval x = .slice pa 0 pc)
    (h : wpList P ops Q rest (a.put o.dst v) w) : wpList P ops Q (o :: rest) a w := by
  refine wpList_plain hgd fun K hK => ?_
  have hrun := run_app0 (P := P) (w := w) base t o.type e i size ht hi v n xs hown pa pc
  unfold Oper.wp
  simp [execOp, ho, resolve, invoke, builtin, hs, hx, hrun, Result.andThen]
  exact hK _ _ h
set_option maxRecDepth 100000 in
set_option maxHeartbeats 4000000 in
theorem drawPolSame (w : World) (a : Option Addr) (len cap : Nat) (h : Src w a len cap) :
    Calls Try.prog 26 #[.slice a len cap] w (Pair2 w 5 5) := by
  obtain ⟨i0, hi0, hz0, hz1, hz2⟩ := info_parts infoT
  go_enter Try.func26, Try.ntmps26
  go_wp2_with fail
  refine (open_any _ _ _ _ h).mono ?_
  rintro e w1 ⟨rfl, hR1, b1⟩
  have hl1 := hR1.lt
  clear h
  go_wp2_with fail
  refine (any_any w1 _ _ 12 hR1 (by omega) (by omega) (by omega)).mono ?_
  rintro e w2 ⟨pa, m, pc, f, q, rfl, hrd, hm, hblk, hq, hR2, s2⟩
  have b2 := s2.below b1 (Nat.le_refl _) (by omega)
  have hne := off_of hblk hl1
  have hs2 := s2.size
  clear hR1 s2 b1 hblk
  go_wp2_with fail
  refine (pick_any w2 _ _ 2 hR2 (by omega) (by omega) (by omega)).mono ?_
  rintro e w3 ⟨j, rfl, j0, j1, hk⟩
  have hR3 := hk.rdr hR2
  have b3 := hk.beside.below b2 (Nat.le_refl _) (by omega)
  have hrd3 := hrd.beside hk.beside hne
  have hs3 := hk.beside.size
  clear hk hR2 b2 hrd
  by_cases hj : j = 0
  · subst hj
    obtain ⟨A, hmA, hA⟩ := list_of hrd3
    subst hmA
    have hO0 := owns_none w3 w.heap.size (by omega)
    have hB0 := bel_next b3 (bel_one w3 (.cells #[] 35))
    have hA0 := hA.below (bel_one w3 (.cells #[] 35))
    clear hrd3 hR3
    by_cases h0 : A = []
    · subst h0
      have HB0 := Hid.mk' hB0
      have HA3 := Hid.mk' hA0
      have HO3 := Hid.mk' hO0
      clear hA hA0 hO0 hB0 b3
      go_wp2_with (at_builtin; refine wpList_app0 rfl (.tmp 14) (.tmp 15) 23 rfl w.heap.size 35 i0 5 Try.underlying23 hi0 _ 0 (cellsL []) rfl HO3.out pa pc rfl ?_)
      refine bodyPost_ret (results_tmp2 rfl _ _ _) rfl ?_
      exact ⟨pa, pc, [], some ⟨w3.heap.size, 0, none⟩, 0, [], rfl, HA3.out, ⟨Nat.le_refl _, by simp, .inl rfl⟩, by simp, by simp, HB0.out⟩
    · have hlen : 0 < A.length := List.length_pos_iff.2 h0
      rcases hA0.2.2 with h1 | ⟨b, off, hpe, hblt, hcl⟩
      · omega
      subst hpe
      have HN := Hid.mk' (Rd.news hA0)
      have HA3 := Hid.mk' hA0
      have hsz : w.heap.size ≤ (w3.alloc (.cells #[] 35)).heap.size := hB0.size
      have hbw : b < w3.heap.size := by rcases hA.2.2 with h1 | ⟨b', off', he, hl, _⟩; omega; cases he; exact hl
      have HNE : Hid (∀ k, (Value.slice (some ⟨w3.heap.size, 0, none⟩) 0 0).ownBlock = some k → k = w3.heap.size) := fun k hk => by simp [Value.ownBlock] at hk; omega
      clear hA hcl
      go_wp2_with (at_builtin; refine wpList_append_lies _ rfl (.tmp 14) (.tmp 15) 23 rfl w.heap.size 35 i0 _ 5 40 Try.underlying23 hi0 hz0 hz1 hz2 rfl (by omega) _ 0 (cellsL []) rfl hO0 ⟨b, off, none⟩ A.length pc (cellsL A) rfl (by simp [cellsL_length]) HN.out (all_cells A) (by omega) (by unfold maxLen; omega) (by omega) hsz _ rfl ?_; intro g0 cap0 w9 hown1 hgrow hat hlt1)
      have hgr : ∀ k, (Value.slice (some ⟨w3.heap.size, 0, none⟩) 0 0).ownBlock = some k → w.heap.size ≤ k := fun k hk => (hO0.lt k hk).1
      have HB9 := Hid.mk' (hB0.grown hgrow hB0.size hgr)
      have HA9 := Hid.mk' (Rd.grown HA3.out hgrow (.inr (fun b' off' e1 e2 => by cases e1; exact absurd (HNE.out b e2.symm) (by omega))))
      obtain ⟨a9, c9, hv9, hout9⟩ := out_of_owns (L := A) (by have h5 := hown1; rw [show cellsL [] ++ cellsL A = cellsL A from rfl, Nat.zero_add] at h5; exact h5) (by omega)
      cases hv9
      have HR9 := Hid.mk' hout9.1
      clear hown1 hgrow hat hlt1 hout9 hO0 hB0 hA0
      refine bodyPost_ret (results_tmp2 rfl _ _ _) rfl ?_
      exact ⟨_, _, A, _, _, A, by simp, HA9.out, HR9.out, hm, hm, HB9.out⟩
  · have hjb : (j == 0) = false := by simp [hj]
    go_wp2_with fail
    refine (any_any w3 _ _ 12 hR3 (by omega) (by omega) (by omega)).mono ?_
    rintro e w4 ⟨pa', m', pc', g, q', rfl, hrd', hm', hblk', hq', hR4, s4⟩
    have HB4 := Hid.mk' (s4.below b3 (Nat.le_refl _) (by omega))
    have HA4 := Hid.mk' (hrd3.beside s4 hne)
    have HG4 := Hid.mk' hrd'
    clear hR3 hR4 s4 b3 hrd3 hrd'
    go_wp2
    refine bodyPost_ret (results_tmp2 rfl _ _ _) rfl ?_
    exact pair_mk HA4.out HG4.out hm hm' HB4.out
end Go.Proofs.Ytddfpjjeoojlmaa
