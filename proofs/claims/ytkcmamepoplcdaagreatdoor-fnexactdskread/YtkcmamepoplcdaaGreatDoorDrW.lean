/-
  The model cuts a line at its blanks, and reads a slot (l11Words, l11Slot).
-/
import Derived.Test.YtkcmamepoplcdaaGreatDoorDrA
import Derived.Test.YtkcmamepoplcdaaGreatDoorGaq
import Derived.Test.YtkcmamepoplcdaaGreatDoorGah
namespace Go.Proofs.YtkcmamepoplcdaaGreatDoor
open Go.RowKit
set_option linter.unusedVariables false
set_option linter.unusedSimpArgs false
def wdS (s : List UInt8) : List (List UInt8) := if s.length ≤ 420 then cutB s else []
theorem wdS_bd (s : List UInt8) : (wdS s).length ≤ 421 := by
  unfold wdS
  split
  · have := cub_len s; omega
  · simp
theorem wdS_or (s : List UInt8) : wdS s = [] ∨ wdS s = cutB s := by
  unfold wdS
  split
  · exact .inr rfl
  · exact .inl rfl
theorem wdS_mem {s : List UInt8} {i : Nat} {l : List UInt8} (h : (wdS s)[i]? = some l) : l.length ≤ 420 := by
  unfold wdS at h
  split at h
  · have := cub_mem_len s l (List.mem_of_getElem? h); omega
  · simp at h
def WdI (w : World) (o : List (List UInt8)) (v : Value) (wr : World) : Prop := OwT w.heap.size v o wr ∧ Below w.heap.size w wr
set_option maxRecDepth 100000 in
set_option maxHeartbeats 4200000 in
theorem l11WordsS (s : List UInt8) (hs : s.length ≤ 1048576) (w : World) :
    Calls Tryz.prog 31 #[.string ⟨s.toArray⟩] w fun r w' => ∃ g cp, r = .returned (.slice (some ⟨g, 0, none⟩) (wdS s).length cp) ∧ OwT w.heap.size (.slice (some ⟨g, 0, none⟩) (wdS s).length cp) (wdS s) w' ∧ Below w.heap.size w w' := by
  have hsI : (s.length : Int) ≤ 1048576 := by omega
  obtain ⟨i0, hi0, hz0, hz1, hz2⟩ := info_parts infoSt
  have HO0 := Hid.mk' (owt_none w w.heap.size (Nat.le_refl _))
  have HB0 := Hid.mk' (bel_one w (.cells #[] 9))
  by_cases hl : s.length ≤ 420
  · have hlI : ¬ (420 : Int) < (s.length : Int) := by omega
    have hlJ : (s.length : Int) ≤ 420 := by omega
    have HE : Hid (wdS s = cutB s) := by unfold wdS; rw [if_pos hl]; exact Hid.mk' rfl
    go_enter Tryz.func31, Tryz.ntmps31
    go_wp2
    go_loopw [5, 3, 4] (fun v5 v3 v4 wr => ∃ (k g cp n : Nat) (o : List (List UInt8)) (wd : List UInt8), k ≤ s.length ∧ n ≤ k ∧ v5 = .int .i64 (k : Int) ∧ v3 = .slice (some ⟨g, 0, none⟩) n cp ∧ v4 = .string ⟨wd.toArray⟩ ∧ wd.length ≤ k ∧ Hid (n = o.length ∧ cutB (s.take k) = o ++ [wd]) ∧ Hid (WdI w o (.slice (some ⟨g, 0, none⟩) n cp) wr)) (fun v5 _ _ _ => s.length - (intOf v5).toNat)
    case atStart => exact ⟨0, _, _, 0, [], [], Nat.zero_le _, Nat.le_refl _, rfl, rfl, rfl, Nat.le_refl _, Hid.mk' ⟨rfl, rfl⟩, Hid.mk' ⟨HO0.out, HB0.out⟩⟩
    case round =>
      obtain ⟨k, g, cp, n, o, wd, hk, hnk, rfl, rfl, rfl, hwd, HC, HI⟩ := hrel
      have hmax : n + 1 ≤ maxLen := by unfold maxLen; omega
      have hs0 := HI.out.2.size
      by_cases hkl : k < s.length
      · have hkI : (k : Int) < (s.length : Int) := by omega
        obtain ⟨c, hc⟩ : ∃ c, s[k]? = some c := ⟨_, List.getElem?_eq_getElem hkl⟩
        have hix := str_index hc
        have htk : s.take (k + 1) = s.take k ++ [c] := by
          rw [List.take_add_one, hc]; rfl
        by_cases hp : c = 32
        · subst hp
          have HC2 : Hid (cutB (s.take (k + 1)) = (o ++ [wd]) ++ [[]]) := by rw [htk, cub_blank, HC.out.2]; exact Hid.mk' rfl
          have HO4 := Hid.mk' (HI.out.1.alloc (.cells #[.string ⟨wd.toArray⟩] 9))
          have HB4 := Hid.mk' (HI.out.2.alloc hs0 (.cells #[.string ⟨wd.toArray⟩] 9))
          have HN := Hid.mk' (heap_alloc_new wr (.cells #[.string ⟨wd.toArray⟩] 9))
          clear hc htk
          have hix' : ∀ u : World, (Instr.index 9 (.string ⟨s.toArray⟩) (.int .i64 (k : Int))).run Tryz.prog u = .ok (.int .u8 32) u := fun u => hix u
          clear hix
          go_wp2_with (at_builtin; refine wpList_append_lies _ rfl (.tmp 21) (.tmp 23) 30 rfl w.heap.size 9 i0 _ 1 16 Tryz.underlying30 hi0 hz0 hz1 hz2 rfl (by omega) _ n (stL o) rfl (HC.out.1 ▸ HO4.out) ⟨wr.heap.size, 0, none⟩ 1 1 [.string ⟨wd.toArray⟩] rfl rfl (World.news_of_block HN.out) (one_st _) (by omega) hmax (by omega) (by simp; omega) _ rfl ?_; intro g1 cap1 w7 hown2 hgrow2 hat2 hlt2; have HO7 := Hid.mk' hown2; have HB7 := Hid.mk' (HB4.out.grown hgrow2 (by simp; omega) (fun k' e' => (HO4.out.lt k' e').1)); clear hown2 hgrow2 hat2 hlt2)
          go_roundw
          case rel => exact ⟨k + 1, g1, cap1, n + 1, o ++ [wd], [], by omega, by omega, by go_num, rfl, rfl, by simp, Hid.mk' ⟨by rw [HC.out.1]; simp, HC2.out⟩, Hid.mk' ⟨by
            have := HO7.out
            show World.ownsRow _ _ _ _ _ _ _
            rw [stL_app, List.length_append, ← HC.out.1]; exact this, HB7.out⟩⟩
          case measure => simp [intOf]; omega
        · have HC2 : Hid (cutB (s.take (k + 1)) = o ++ [wd ++ [c]]) := by rw [htk, cub_more hp, HC.out.2, snocH_app]; exact Hid.mk' rfl
          have hcv := one_byte' wr c 5
          have HB4 := Hid.mk' (HI.out.2.alloc hs0 (.cells #[.int .u8 (c.toNat : Int)] 5))
          have HO4 := Hid.mk' (HI.out.1.alloc (.cells #[.int .u8 (c.toNat : Int)] 5))
          have hp32 : (c.toNat : Int) ≠ 32 := fun e => hp (by
            apply UInt8.toNat_inj.1
            have : c.toNat = 32 := by omega
            rw [this]; rfl)
          have hpb : ((c.toNat : Int) == 32) = false := beq_eq_false_iff_ne.2 hp32
          have hsz : ¬ (9223372036854775807 < wd.length + 1) := by omega
          clear hc htk hp hp32
          go_wp2
          go_roundw
          case rel => exact ⟨k + 1, g, cp, n, o, wd ++ [c], by omega, by omega, by go_num, rfl, by first | rfl | exact congrArg Value.string (ba_cat1 wd c) | (simp; exact ba_cat1 wd c), by simp; omega, Hid.mk' ⟨HC.out.1, HC2.out⟩, Hid.mk' ⟨HO4.out, HB4.out⟩⟩
          case measure => simp [intOf]; omega
      · have hke : k = s.length := by omega
        have hnl : ¬ (k : Int) < (s.length : Int) := by omega
        have HCE : Hid (wdS s = o ++ [wd]) := by
          rw [HE.out]
          have := HC.out.2
          rw [hke, List.take_length] at this
          exact Hid.mk' this
        clear hke
        have HO4 := Hid.mk' (HI.out.1.alloc (.cells #[.string ⟨wd.toArray⟩] 9))
        have HB4 := Hid.mk' (HI.out.2.alloc hs0 (.cells #[.string ⟨wd.toArray⟩] 9))
        have HN := Hid.mk' (heap_alloc_new wr (.cells #[.string ⟨wd.toArray⟩] 9))
        go_wp2_with (at_builtin; refine wpList_append_lies _ rfl (.tmp 32) (.tmp 34) 30 rfl w.heap.size 9 i0 _ 1 16 Tryz.underlying30 hi0 hz0 hz1 hz2 rfl (by omega) _ n (stL o) rfl (HC.out.1 ▸ HO4.out) ⟨wr.heap.size, 0, none⟩ 1 1 [.string ⟨wd.toArray⟩] rfl rfl (World.news_of_block HN.out) (one_st _) (by omega) hmax (by omega) (by simp; omega) _ rfl ?_; intro g1 cap1 w7 hown2 hgrow2 hat2 hlt2; have HO7 := Hid.mk' hown2; have HB7 := Hid.mk' (HB4.out.grown hgrow2 (by simp; omega) (fun k' e' => (HO4.out.lt k' e').1)); clear hown2 hgrow2 hat2 hlt2)
        go_ret
        have hn1 : n + 1 = (wdS s).length := by rw [HCE.out]; simp [HC.out.1]
        refine ⟨g1, cap1, by rw [hn1]; rfl, ?_, HB7.out⟩
        have := HO7.out
        show World.ownsRow _ _ _ _ _ _ _
        rw [← hn1, HCE.out, stL_app]
        exact this
  · have hlI : (420 : Int) < (s.length : Int) := by omega
    have HE : Hid (wdS s = []) := by unfold wdS; rw [if_neg hl]; exact Hid.mk' rfl
    clear hl
    go_enter Tryz.func31, Tryz.ntmps31
    go_wp2
    go_ret
    exact ⟨_, 0, by rw [HE.out]; rfl, by rw [HE.out]; exact HO0.out, HB0.out⟩
theorem slW_no {w : List UInt8} (h : w.length ≠ 1) : slW w = -1 := by
  match w, h with
  | [], _ => rfl
  | [c], h => exact absurd rfl h
  | _ :: _ :: _, _ => rfl
set_option maxRecDepth 100000 in
set_option maxHeartbeats 1000000 in
theorem l11SlotS (s : List UInt8) (hs : s.length ≤ 1048576) (w : World) : Calls Tryz.prog 34 #[.string ⟨s.toArray⟩] w fun e w' => e = .returned (.int .i64 (slW s)) ∧ w' = w := by
  by_cases h1 : s.length = 1
  · obtain ⟨c, rfl⟩ := List.length_eq_one_iff.1 h1
    have hix : ∀ u : World, (Instr.index 9 (.string ⟨#[c]⟩) (.int .i64 0)).run Tryz.prog u = .ok (.int .u8 (c.toNat : Int)) u := fun u => str_index (l := [c]) (k := 0) (c := c) rfl u
    have hc : c.toNat < 256 := c.toNat_lt
    have hw : IntKind.i64.wrap (c.toNat : Int) = (c.toNat : Int) := by rw [IntKind.wrap_i64]; omega
    clear h1 hs
    by_cases hb : 65 ≤ (c.toNat : Int) ∧ (c.toNat : Int) ≤ 70
    · obtain ⟨b1, b2⟩ := hb
      have e : slW [c] = (c.toNat : Int) - 65 := if_pos ⟨b1, b2⟩
      have hw2 : IntKind.i64.wrap ((c.toNat : Int) - 65) = (c.toNat : Int) - 65 := by rw [IntKind.wrap_i64]; omega
      rw [e]
      clear e
      go_enter Tryz.func34, Tryz.ntmps34
      go_wp2_with (go_at_call 54; refine (inS_in _ _ _ _ (by omega) (by omega)).mono ?_; rintro e w' ⟨rfl, rfl⟩)
      go_ret
      exact ⟨rfl, rfl⟩
    · have e : slW [c] = -1 := if_neg hb
      have hb' : (c.toNat : Int) < 65 ∨ (65 ≤ (c.toNat : Int) ∧ 70 < (c.toNat : Int)) := by omega
      rw [e]
      clear e hb
      go_enter Tryz.func34, Tryz.ntmps34
      go_wp2_with (go_at_call 54; refine (inS_out _ _ _ _ hb').mono ?_; rintro e w' ⟨rfl, rfl⟩)
      go_ret
      exact ⟨rfl, rfl⟩
  · have h1b : ((s.length : Int) != 1) = true := by simp; omega
    rw [slW_no h1]
    clear h1
    go_enter Tryz.func34, Tryz.ntmps34
    go_wp2
    go_ret
    exact ⟨rfl, rfl⟩
end Go.Proofs.YtkcmamepoplcdaaGreatDoor
