/-
  The model cuts texts at each '+' and reads operators (l3Cut, PolRead).
-/
import Derived.Test.YtnfgiplgkobnlaaDoorCtD
import Derived.Test.YtnfgiplgkobnlaaDoorStrL
import Derived.Test.YtnfgiplgkobnlaaDoorBent
import Derived.Test.YtnfgiplgkobnlaaDoorRdT
import Derived.Test.YtnfgiplgkobnlaaDoorPxS
import Derived.Test.YtnfgiplgkobnlaaDoorPol2
namespace Go.Proofs.YtnfgiplgkobnlaaDoor
open Go.RowKit
set_option linter.unusedVariables false
set_option linter.unusedSimpArgs false
def ctS (s : List UInt8) : List (List UInt8) := if s.length ≤ 400 then cutL s else []
theorem cut_len : ∀ s : List UInt8, (cutL s).length ≤ s.length + 1
  | [] => by simp [cutL]
  | c :: r => by
    have := cut_len r
    unfold cutL
    split
    · simp; omega
    · cases e : cutL r with
      | nil => exact absurd e (cut_ne r)
      | cons h t => rw [e] at this; simp [consH] at this ⊢; omega
theorem cut_mem_len : ∀ (s : List UInt8) (w : List UInt8), w ∈ cutL s → w.length ≤ s.length
  | [], w, h => by simp [cutL] at h; subst h; simp
  | c :: r, w, h => by
    unfold cutL at h
    split at h
    · rcases List.mem_cons.1 h with e | e
      · subst e; simp
      · have := cut_mem_len r w e; simp; omega
    · cases q : cutL r with
      | nil => exact absurd q (cut_ne r)
      | cons a t =>
        rw [q] at h
        rcases List.mem_cons.1 h with e | e
        · subst e
          have := cut_mem_len r a (by rw [q]; simp)
          simp; omega
        · have := cut_mem_len r w (by rw [q]; simp [e])
          simp; omega
theorem byte_back (c : UInt8) : UInt8.ofNat (((c.toNat : Int)) % 256).toNat = c := by
  have h : c.toNat < 256 := c.toNat_lt
  have e : ((c.toNat : Int) % 256).toNat = c.toNat := by omega
  rw [e]
  simp
theorem one_byte' (w : World) (c : UInt8) (t : TypeId) :
    (convert 22 9 (.slice (some ⟨w.heap.size, 0, none⟩) 1 1)).run Tryd.prog (w.alloc (Obj.cells #[.int .u8 (c.toNat : Int)] t)) = .ok (.string ⟨#[c]⟩) (w.alloc (Obj.cells #[.int .u8 (c.toNat : Int)] t)) := by
  have h : c.toNat < 256 := c.toNat_lt
  have := one_byte w (c.toNat : Int) t
  rw [byte_back, show ((c.toNat : Int)) % 256 = (c.toNat : Int) by omega] at this
  exact this
def CtI (w : World) (o : List (List UInt8)) (v : Value) (wr : World) : Prop := OwT w.heap.size v o wr ∧ Below w.heap.size w wr
set_option maxRecDepth 100000 in
set_option maxHeartbeats 4000000 in
theorem l3CutS (s : List UInt8) (hs : s.length ≤ 1048576) (w : World) :
    Calls Tryd.prog 44 #[.string ⟨s.toArray⟩] w fun r w' => ∃ g cp, r = .returned (.slice (some ⟨g, 0, none⟩) (ctS s).length cp) ∧ OwT w.heap.size (.slice (some ⟨g, 0, none⟩) (ctS s).length cp) (ctS s) w' ∧ Below w.heap.size w w' := by
  have hsI : (s.length : Int) ≤ 1048576 := by omega
  obtain ⟨i0, hi0, hz0, hz1, hz2⟩ := info_parts infoSt
  have HO0 := Hid.mk' (owt_none w w.heap.size (Nat.le_refl _))
  have HB0 := Hid.mk' (bel_one w (.cells #[] 9))
  by_cases hl : s.length ≤ 400
  · have hlI : ¬ (400 : Int) < (s.length : Int) := by omega
    have hlJ : (s.length : Int) ≤ 400 := by omega
    have HE : Hid (ctS s = cutL s) := by unfold ctS; rw [if_pos hl]; exact Hid.mk' rfl
    go_enter Tryd.func44, Tryd.ntmps44
    go_wp2
    go_loopw [5, 3, 4] (fun v5 v3 v4 wr => ∃ (k g cp n : Nat) (o : List (List UInt8)) (wd : List UInt8), k ≤ s.length ∧ n ≤ k ∧ v5 = .int .i64 (k : Int) ∧ v3 = .slice (some ⟨g, 0, none⟩) n cp ∧ v4 = .string ⟨wd.toArray⟩ ∧ wd.length ≤ k ∧ Hid (n = o.length ∧ cutL (s.take k) = o ++ [wd]) ∧ Hid (CtI w o (.slice (some ⟨g, 0, none⟩) n cp) wr)) (fun v5 _ _ _ => s.length - (intOf v5).toNat)
    case atStart => exact ⟨0, _, _, 0, [], [], Nat.zero_le _, Nat.le_refl _, rfl, rfl, rfl, Nat.le_refl _, Hid.mk' ⟨rfl, rfl⟩, Hid.mk' ⟨HO0.out, HB0.out⟩⟩
    case round =>
      obtain ⟨k, g, cp, n, o, wd, hk, hnk, rfl, rfl, rfl, hwd, HC, HI⟩ := hrel
      have hmax : n + 1 ≤ maxLen := by unfold maxLen; omega
      have hs0 := HI.out.2.size
      by_cases hkl : k < s.length
      · have hkI : (k : Int) < (s.length : Int) := by omega
        obtain ⟨c, hc⟩ : ∃ c, s[k]? = some c := ⟨_, List.getElem?_eq_getElem hkl⟩
        have hix := str_index hc
        have htk : s.take (k + 1) = s.take k ++ [c] := by
          rw [List.take_add_one, hc]; rfl
        by_cases hp : c = 43
        · subst hp
          have HC2 : Hid (cutL (s.take (k + 1)) = (o ++ [wd]) ++ [[]]) := by rw [htk, cut_plus, HC.out.2]; exact Hid.mk' rfl
          have HO4 := Hid.mk' (HI.out.1.alloc (.cells #[.string ⟨wd.toArray⟩] 9))
          have HB4 := Hid.mk' (HI.out.2.alloc hs0 (.cells #[.string ⟨wd.toArray⟩] 9))
          have HN := Hid.mk' (heap_alloc_new wr (.cells #[.string ⟨wd.toArray⟩] 9))
          clear hc htk
          have hix' : ∀ u : World, (Instr.index 9 (.string ⟨s.toArray⟩) (.int .i64 (k : Int))).run Tryd.prog u = .ok (.int .u8 43) u := fun u => hix u
          clear hix
          go_wp2_with (at_builtin; refine wpList_append_lies _ rfl (.tmp 21) (.tmp 23) 72 rfl w.heap.size 9 i0 _ 1 16 Tryd.underlying72 hi0 hz0 hz1 hz2 rfl (by omega) _ n (stL o) rfl (HC.out.1 ▸ HO4.out) ⟨wr.heap.size, 0, none⟩ 1 1 [.string ⟨wd.toArray⟩] rfl rfl (World.news_of_block HN.out) (one_st _) (by omega) hmax (by omega) (by simp; omega) _ rfl ?_; intro g1 cap1 w7 hown2 hgrow2 hat2 hlt2; have HO7 := Hid.mk' hown2; have HB7 := Hid.mk' (HB4.out.grown hgrow2 (by simp; omega) (fun k' e' => (HO4.out.lt k' e').1)); clear hown2 hgrow2 hat2 hlt2)
          go_roundw
          case rel => exact ⟨k + 1, g1, cap1, n + 1, o ++ [wd], [], by omega, by omega, by go_num, rfl, rfl, by simp, Hid.mk' ⟨by rw [HC.out.1]; simp, HC2.out⟩, Hid.mk' ⟨by
            have := HO7.out
            show World.ownsRow _ _ _ _ _ _ _
            rw [stL_app, List.length_append, ← HC.out.1]; exact this, HB7.out⟩⟩
          case measure => simp [intOf]; omega
        · have HC2 : Hid (cutL (s.take (k + 1)) = o ++ [wd ++ [c]]) := by rw [htk, cut_more hp, HC.out.2, snocH_app]; exact Hid.mk' rfl
          have hcv := one_byte' wr c 5
          have HB4 := Hid.mk' (HI.out.2.alloc hs0 (.cells #[.int .u8 (c.toNat : Int)] 5))
          have HO4 := Hid.mk' (HI.out.1.alloc (.cells #[.int .u8 (c.toNat : Int)] 5))
          have hp43 : (c.toNat : Int) ≠ 43 := fun e => hp (by
            apply UInt8.toNat_inj.1
            have : c.toNat = 43 := by omega
            rw [this]; rfl)
          have hpb : ((c.toNat : Int) == 43) = false := beq_eq_false_iff_ne.2 hp43
          have hsz : ¬ (9223372036854775807 < wd.length + 1) := by omega
          clear hc htk hp hp43
          go_wp2
          go_roundw
          case rel => exact ⟨k + 1, g, cp, n, o, wd ++ [c], by omega, by omega, by go_num, rfl, by first | rfl | exact congrArg Value.string (ba_cat1 wd c) | (simp; exact ba_cat1 wd c), by simp; omega, Hid.mk' ⟨HC.out.1, HC2.out⟩, Hid.mk' ⟨HO4.out, HB4.out⟩⟩
          case measure => simp [intOf]; omega
      · have hke : k = s.length := by omega
        have hnl : ¬ (k : Int) < (s.length : Int) := by omega
        have HCE : Hid (ctS s = o ++ [wd]) := by
          rw [HE.out]
          have := HC.out.2
          rw [hke, List.take_length] at this
          exact Hid.mk' this
        clear hke
        have HO4 := Hid.mk' (HI.out.1.alloc (.cells #[.string ⟨wd.toArray⟩] 9))
        have HB4 := Hid.mk' (HI.out.2.alloc hs0 (.cells #[.string ⟨wd.toArray⟩] 9))
        have HN := Hid.mk' (heap_alloc_new wr (.cells #[.string ⟨wd.toArray⟩] 9))
        go_wp2_with (at_builtin; refine wpList_append_lies _ rfl (.tmp 32) (.tmp 34) 72 rfl w.heap.size 9 i0 _ 1 16 Tryd.underlying72 hi0 hz0 hz1 hz2 rfl (by omega) _ n (stL o) rfl (HC.out.1 ▸ HO4.out) ⟨wr.heap.size, 0, none⟩ 1 1 [.string ⟨wd.toArray⟩] rfl rfl (World.news_of_block HN.out) (one_st _) (by omega) hmax (by omega) (by simp; omega) _ rfl ?_; intro g1 cap1 w7 hown2 hgrow2 hat2 hlt2; have HO7 := Hid.mk' hown2; have HB7 := Hid.mk' (HB4.out.grown hgrow2 (by simp; omega) (fun k' e' => (HO4.out.lt k' e').1)); clear hown2 hgrow2 hat2 hlt2)
        go_ret
        have hn1 : n + 1 = (ctS s).length := by rw [HCE.out]; simp [HC.out.1]
        refine ⟨g1, cap1, by rw [hn1]; rfl, ?_, HB7.out⟩
        have := HO7.out
        show World.ownsRow _ _ _ _ _ _ _
        rw [← hn1, HCE.out, stL_app]
        exact this
  · have hlI : (400 : Int) < (s.length : Int) := by omega
    have HE : Hid (ctS s = []) := by unfold ctS; rw [if_neg hl]; exact Hid.mk' rfl
    clear hl
    go_enter Tryd.func44, Tryd.ntmps44
    go_wp2
    go_ret
    exact ⟨_, 0, by rw [HE.out]; rfl, by rw [HE.out]; exact HO0.out, HB0.out⟩
end Go.Proofs.YtnfgiplgkobnlaaDoor
