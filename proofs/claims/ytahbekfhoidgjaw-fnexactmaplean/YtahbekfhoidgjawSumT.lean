/-
  An operator, so many times, added to a sum.
-/
import Derived.Test.YtahbekfhoidgjawSumR
import Derived.Test.YtahbekfhoidgjawAdd
import Derived.Deep.RegionWith
namespace Go.Proofs.Ytahbekfhoidgjaw
open Go.RowKit Go.Maps
set_option linter.unusedVariables false

def timesC (k : Int) (f : Nat → T) (c : M → Int) : Nat → M → Int
  | 0 => c
  | i + 1 => updC (timesC k f c i) (f i).m (k * (f i).c % 101)
theorem grown_drew (w : World) : w.grownBy w.drew none := ⟨rfl, rfl, rfl, Nat.le_refl _, fun _ _ _ => rfl⟩
theorem grown_any {w w' : World} {row : Option Nat} (h : w.grownBy w' none) : w.grownBy w' row := ⟨h.os, h.tape, h.output, h.size, fun k hk _ => h.block k hk (by simp)⟩
set_option maxRecDepth 100000 in
set_option maxHeartbeats 2000000 in
theorem sumTimes (w : World) (b n : Nat) (c : M → Int) (k : Int) (a : Option Addr) (la cap : Nat) (f : Nat → T) (h : SumR w b n c) (hr : Rd w a la cap f) (hne : la = 0 ∨ ∀ b' off, a = some ⟨b', off, none⟩ → some b' ≠ some b)
    (hm : ∀ i, i < la → (f i).m.ok = true) (hc : ∀ i, i < la → 0 ≤ (f i).c ∧ (f i).c ≤ 100) (k0 : 0 ≤ k) (k1 : k ≤ 100) (hn : n + la ≤ 1000000) (hb : b < w.heap.size) :
    Calls Try.prog 35 #[.map (some b), .int .i64 k, .slice a la cap] w fun e w' => e = .returned (.tuple #[]) ∧ SumR w' b (n + la) (timesC k f c la) ∧ w.grownBy w' (some b) := by
  have HR := Hid.mk' hr
  have HS := Hid.mk' h
  have HM := Hid.mk' hm
  have HC := Hid.mk' hc
  have HNE := Hid.mk' hne
  have hl : (la : Int) ≤ 1000000 := by omega
  clear h hr hm hc hne
  go_enter Try.func35, Try.ntmps35
  go_wp2
  go_loopw [10] (fun i wr => ∃ j : Nat, j ≤ la ∧ i = .int .i64 j ∧ SumR wr b (n + j) (timesC k f c j) ∧ w.grownBy wr (some b)) (fun i _ => la - (intOf i).toNat)
  case atStart => exact ⟨0, Nat.zero_le _, rfl, HS.out, grown_refl w _⟩
  case round =>
    obtain ⟨j, hj, rfl, hS, hg⟩ := hrel
    by_cases hlt : j < la
    · have hjl : (j : Int) < (la : Int) := by omega
      have hrj := HR.out.grown hg HNE.out
      rcases hrj.2.2 with h0 | ⟨pb, off, rfl, hblt, hcl⟩
      · omega
      obtain ⟨g0, g1, g2, g3, g4⟩ := hcl j hlt
      have hmj := HM.out j hlt
      obtain ⟨c0, c1⟩ := HC.out j hlt
      have HSJ := Hid.mk' hS
      have HG := Hid.mk' hg
      clear hcl hrj hS hg
      go_wp2_with fail
      have HSQ := Hid.mk' (HSJ.out.grown (World.grownBy_alloc wr (.cells #[.int .i64 (f j).c, .int .i64 (f j).m.x, .int .i64 (f j).m.y, .int .i64 (f j).m.d, .int .i64 (f j).m.e] 40) none) (by simp))
      have HGQ := Hid.mk' (HG.out.trans (World.grownBy_alloc wr (.cells #[.int .i64 (f j).c, .int .i64 (f j).m.x, .int .i64 (f j).m.y, .int .i64 (f j).m.d, .int .i64 (f j).m.e] 40) (some b)))
      have hq : ∀ i v, #[Value.int .i64 (f j).c, .int .i64 (f j).m.x, .int .i64 (f j).m.y, .int .i64 (f j).m.d, .int .i64 (f j).m.e][i]? = some v → (wr.alloc (.cells #[.int .i64 (f j).c, .int .i64 (f j).m.x, .int .i64 (f j).m.y, .int .i64 (f j).m.d, .int .i64 (f j).m.e] 40)).cell? ⟨wr.heap.size, i, none⟩ = some v := fun i v hv => by rw [World.cell?_alloc_at _ _ _ _ rfl]; exact hv
      have q0 := hq 0 _ rfl
      have q1 := hq 1 _ rfl
      have q2 := hq 2 _ rfl
      have q3 := hq 3 _ rfl
      have q4 := hq 4 _ rfl
      clear hq g0 g1 g2 g3 g4 HSJ HG
      generalize (wr.alloc (.cells #[.int .i64 (f j).c, .int .i64 (f j).m.x, .int .i64 (f j).m.y, .int .i64 (f j).m.d, .int .i64 (f j).m.e] 40)) = wq at HSQ HGQ q0 q1 q2 q3 q4 ⊢
      have HADD := Hid.mk' (sumAddR b (n + j) (timesC k f c j) (k * (f j).c % 101) (f j).m wq.drew hmj (HSQ.out.grown (grown_drew wq) (by simp)) (by unfold maxLen; omega) (by omega) (by omega))
      go_region_with (first | (go_at_call 25; refine (times _ _ _ k0 k1 c0 c1).mono ?_; rintro r w2 ⟨rfl, hw⟩; obtain rfl := hw.symm; clear hw) | (go_at_call 27; refine HADD.out.mono ?_; rintro r w4 ⟨rfl, hS4, hg4⟩; have HS4 := Hid.mk' hS4; have HG4 := Hid.mk' ((HGQ.out.trans (grown_any (grown_drew wq))).trans hg4); clear hS4 hg4))
      all_goals
        go_wp2
        go_roundw
        case rel => exact ⟨j + 1, by omega, by go_num, HS4.out, HG4.out⟩
        case measure => simp [intOf]; omega
    · obtain rfl : j = la := by omega
      have HSJ := Hid.mk' hS
      have HG := Hid.mk' hg
      clear hS hg
      go_wp2
      go_end0
      exact ⟨rfl, HSJ.out, HG.out⟩
end Go.Proofs.Ytahbekfhoidgjaw
