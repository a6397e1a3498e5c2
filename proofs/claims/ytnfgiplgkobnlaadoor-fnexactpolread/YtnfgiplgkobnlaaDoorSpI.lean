/-
  The library's SplitSeq at a single byte: it gives the words of a text.
-/
import Derived.Test.YtnfgiplgkobnlaaDoorSpB
import Derived.Test.YtnfgiplgkobnlaaDoorCtE
import Derived.Shelf.Strings.Search3
import Derived.OwnWalkIn
import Derived.TacticsInMore
import Derived.LoopNIn
import Derived.LoopIn
import Derived.WalkKit
namespace Go.Proofs.YtnfgiplgkobnlaaDoor
open Go.Shelf Go.RowKit
set_option linter.unusedVariables false
set_option linter.unusedSimpArgs false
theorem ix_none : ∀ {l : List UInt8}, Lib.indexByte l 43 < 0 → cutL l = [l]
  | [], _ => rfl
  | b :: l, h => by
    unfold Lib.indexByte at h
    split at h
    · omega
    · rename_i hb
      have hb' : b ≠ 43 := by simpa using hb
      split at h
      · rename_i h1
        have h1' : Lib.indexByte l 43 = -1 := by simpa using h1
        rw [cut_c, if_neg hb', ix_none (l := l) (by omega)]
        rfl
      · have := Lib.indexByte_ge l 43
        omega
theorem ix_some : ∀ {l : List UInt8} {i : Nat}, Lib.indexByte l 43 = (i : Int) → i + 1 ≤ l.length ∧ cutL l = l.take i :: cutL (l.drop (i + 1))
  | [], i, h => by unfold Lib.indexByte at h; omega
  | b :: l, i, h => by
    unfold Lib.indexByte at h
    split at h
    · rename_i hb
      have hb' : b = 43 := by simpa using hb
      have hi : i = 0 := by omega
      subst hi hb'
      refine ⟨by simp, ?_⟩
      rw [cut_c, if_pos rfl]
      rfl
    · rename_i hb
      have hb' : b ≠ 43 := by simpa using hb
      split at h
      · omega
      · obtain ⟨j, rfl⟩ : ∃ j, i = j + 1 := ⟨i - 1, by
          have := Lib.indexByte_ge l 43
          rename_i h1
          have h1' : Lib.indexByte l 43 ≠ -1 := by simpa using h1
          omega⟩
        obtain ⟨h2, h3⟩ := ix_some (l := l) (i := j) (by omega)
        refine ⟨by simp; omega, ?_⟩
        rw [cut_c, if_neg hb', h3]
        rfl
shelf_lay Lays.n143 Nm 143 at Tryd as lay143
theorem indexI (l : List UInt8) (w : World) : Calls Tryd.prog 77 #[.string ⟨l.toArray⟩, .string ⟨#[43]⟩] w fun e w' => e = .returned (.int .i64 (Lib.indexByte l 43)) ∧ w' = w := Any.strings_Index_one lay143 ⟨l.toArray⟩ 43 w
def encS (x : List UInt8) : Array Value := #[.string ⟨x.toArray⟩]
/-- the three boxes of the iterator. -/
def Bx3 (W : World) (lo : Nat) (l : List UInt8) : Prop := Boxed W lo 9 (.string ⟨l.toArray⟩) ∧ Boxed W (lo + 1) 9 (.string ⟨#[43]⟩) ∧ Boxed W (lo + 2) 3 (.int .i64 0)
theorem Bx3.keep {W W' : World} {lo : Nat} {l : List UInt8} (h : Bx3 W lo l) (hk : KpB lo (lo + 3) W W') : Bx3 W' lo l := ⟨(hk.2 _ (by omega) (by omega)).trans h.1, (hk.2 _ (by omega) (by omega)).trans h.2.1, (hk.2 _ (by omega) (by omega)).trans h.2.2⟩
theorem Bx3.set {W : World} {lo : Nat} {l : List UInt8} (h : Bx3 W lo l) (l' : List UInt8) : Bx3 (W.setCell ⟨lo, 0, none⟩ (.string ⟨l'.toArray⟩)) lo l' := ⟨h.1.set _, h.2.1.other (by omega) _, h.2.2.other (by omega) _⟩
def szC (lo : Nat) (W : World) : Nat := match W.cell? ⟨lo, 0, none⟩ with | some (.string b) => b.size | _ => 0
theorem szC_is {W : World} {lo : Nat} {l : List UInt8} (h : Bx3 W lo l) : szC lo W = l.length := by
  unfold szC
  rw [h.1.cell]
  exact ba_size l
set_option maxRecDepth 100000 in
set_option maxHeartbeats 4000000 in
theorem splitI (s : List UInt8) (hs : s.length ≤ 1048576) (lo : Nat) (w : World) (hb : Bx3 w lo s) :
    SeqB Tryd.prog 75 #[.pointer (some ⟨lo + 1, 0, none⟩), .pointer (some ⟨lo, 0, none⟩), .pointer (some ⟨lo + 2, 0, none⟩)] encS lo (lo + 3) (cutL s) w := by
  intro l J Jx W hW hJ hJb hY h0
  have hlt : lo + 2 < w.heap.size := hb.2.2.lt
  have hB0 : Bx3 W lo s := hb.keep (KpB.below hW (by omega))
  have HJ := Hid.mk' hJ
  have HJB := Hid.mk' hJb
  have HY : Hid (∀ pre x W1, J pre W1 → pre ++ [x] <+: cutL s → YieldAt Fence.wide 8 Tryd.prog l (#[.string ⟨x.toArray⟩]) W1 fun e W' => (e = .returned (.bool true) ∧ J (pre ++ [x]) W' ∧ KpB lo (lo + 3) W1 W') ∨ (e = .returned (.bool false) ∧ Jx (pre ++ [x]) W')) := Hid.mk' (fun pre x W1 a b => yldB 8 (hY pre x W1 a b))
  clear hJ hJb hY hW hb
  refine (callsIn_wide (n := 9)).1 ?_
  refine callsIn_of_wp Tryd.func75 rfl trivial ?_ rfl
  simp only [Tryd.ntmps75, List.size_toArray, List.length_cons, List.length_nil, Nat.reduceAdd, Nat.reduceSub, Array.replicate_succ, Array.replicate_zero, List.push_toArray, List.append_toArray, List.nil_append, List.cons_append]
  have c1 := hB0.2.1.cell
  gi_wp2
  clear c1
  gi_loopw [7] (fun v wr => ∃ (lr : List UInt8) (pre : List (List UInt8)), lr.length ≤ 1048576 ∧ Hid (pre ++ cutL lr = cutL s) ∧ Hid (J pre wr) ∧ Hid (Bx3 wr lo lr)) (fun _ wr => szC lo wr)
  case atStart => exact ⟨s, [], hs, Hid.mk' rfl, Hid.mk' h0, Hid.mk' hB0⟩
  case round =>
    obtain ⟨lr, pre, hlr, HC, HJP, HB⟩ := hrel
    have HSZ := Hid.mk' (szC_is HB.out)
    obtain ⟨b1, b2, b3⟩ := HB.out
    have c1 := b1.cell
    have c2 := b2.cell
    have c3 := b3.cell
    have z1 := b1.frozen
    clear b1 b2 b3
    have hix := indexI lr wr
    by_cases hn : Lib.indexByte lr 43 < 0
    · have HCE : Hid (pre ++ [lr] = cutL s) := by rw [← HC.out, ix_none hn]; exact Hid.mk' rfl
      obtain ⟨fn, tmps, assign, body, hyl, hRd⟩ := HY.out pre lr wr HJP.out (by rw [HCE.out]; exact List.prefix_rfl)
      obtain ⟨iv, hiv⟩ : ∃ iv, Lib.indexByte lr 43 = iv := ⟨_, rfl⟩
      rw [hiv] at hn hix
      have HIX := Hid.mk' hix
      clear hiv hix
      gi_wp2_with (first
        | (refine ⟨trivial, ?_⟩; gi_at_call 77; refine (callsIn_wide.2 HIX.out).mono ?_; rintro e w4 ⟨rfl, hw4⟩; obtain rfl := hw4.symm; clear hw4)
        | gi_in)
      refine hRd.mono ?_
      rintro e W3 (⟨rfl, hJ3, hk3⟩ | ⟨rfl, hJx3⟩)
      · gi_wp2
        go_end0
        exact ⟨⟨_, rfl⟩, .inl (by rw [← HCE.out]; exact hJ3)⟩
      · gi_wp2
        go_end0
        exact ⟨⟨_, rfl⟩, .inr ⟨_, by rw [HCE.out]; exact List.prefix_rfl, hJx3⟩⟩
    · obtain ⟨i, hi⟩ : ∃ i : Nat, Lib.indexByte lr 43 = (i : Int) := ⟨(Lib.indexByte lr 43).toNat, by omega⟩
      obtain ⟨hil, hcut⟩ := ix_some hi
      have HCE : Hid ((pre ++ [lr.take i]) ++ cutL (lr.drop (i + 1)) = cutL s) := by
        rw [← HC.out, hcut]
        exact Hid.mk' (by simp)
      obtain ⟨fr, hfr⟩ : ∃ fr, lr.take i = fr := ⟨_, rfl⟩
      obtain ⟨re, hre⟩ : ∃ re, lr.drop (i + 1) = re := ⟨_, rfl⟩
      have hrel : re.length < lr.length := by rw [← hre]; simp; omega
      have hto := fun u => str_to (l := lr) (k := i) (by omega) u
      have hfm := fun u => str_from1 (l := lr) (k := i) hil u
      rw [hfr] at HCE hto
      rw [hre] at HCE hfm
      rw [hi] at hix
      have HIX := Hid.mk' hix
      have hiI : (i : Int) ≤ 1048576 := by omega
      obtain ⟨fn, tmps, assign, body, hyl, hRd⟩ := HY.out pre fr wr HJP.out (by rw [← HCE.out]; exact ⟨_, rfl⟩)
      clear hix hi hcut hfr hre hn
      gi_wp2_with (first
        | (refine ⟨trivial, ?_⟩; gi_at_call 77; refine (callsIn_wide.2 HIX.out).mono ?_; rintro e w4 ⟨rfl, hw4⟩; obtain rfl := hw4.symm; clear hw4)
        | gi_in)
      refine hRd.mono ?_
      rintro e W3 (⟨rfl, hJ3, hk3⟩ | ⟨rfl, hJx3⟩)
      · have hB3 := HB.out.keep hk3
        obtain ⟨b1, b2, b3⟩ := hB3
        clear c1 c2 c3 z1
        have c1 := b1.cell
        have c2 := b2.cell
        have c3 := b3.cell
        have z1 := b1.frozen
        have HB4 := Hid.mk' (Bx3.set ⟨b1, b2, b3⟩ re)
        have HJ4 := Hid.mk' (HJB.out _ _ lo (.string ⟨re.toArray⟩) (Nat.le_refl _) (by omega) hJ3)
        clear b1 b2 b3 hk3 hJ3
        gi_wp2
        go_roundw
        case rel => exact ⟨re, pre ++ [fr], by omega, HCE, HJ4, HB4⟩
        case measure =>
          have h1 := szC_is HB4.out
          have h2 := HSZ.out
          omega
      · gi_wp2
        refine bodyPost_ret (results_none rfl _ _ _) rfl ?_
        exact ⟨⟨_, rfl⟩, .inr ⟨_, by rw [← HCE.out]; exact ⟨_, rfl⟩, hJx3⟩⟩
end Go.Proofs.YtnfgiplgkobnlaaDoor
