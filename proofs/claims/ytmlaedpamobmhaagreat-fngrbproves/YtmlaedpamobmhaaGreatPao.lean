/-
  An operator, so many times, added to a sum.
  What a sum's numbers are behind an operator, so many times.
  What the functions of the program's chapter 3 return: whether terms are an operator, an operator of one term, the number of a monomial.
-/
import Derived.Test.YtmlaedpamobmhaaGreatPag
import Derived.Test.YtmlaedpamobmhaaGreatPae
import Derived.Deep.RegionWith
import Derived.Test.YtmlaedpamobmhaaGreatPaf
import Derived.Test.YtmlaedpamobmhaaGreatPac
import Derived.Test.YtmlaedpamobmhaaGreatPah
namespace Go.Proofs.YtmlaedpamobmhaaGreat
open Go.RowKit Go.Maps
set_option linter.unusedVariables false

def timesC (k : Int) (f : Nat → T) (c : M → Int) : Nat → M → Int
  | 0 => c
  | i + 1 => updC (timesC k f c i) (f i).m (k * (f i).c % 101)
theorem grown_drew (w : World) : w.grownBy w.drew none := ⟨rfl, rfl, rfl, Nat.le_refl _, fun _ _ _ => rfl⟩
theorem grown_any {w w' : World} {row : Option Nat} (h : w.grownBy w' none) : w.grownBy w' row := ⟨h.os, h.tape, h.output, h.size, fun k hk _ => h.block k hk (by simp)⟩
set_option maxRecDepth 100000 in
set_option maxHeartbeats 2000000 in
theorem sumTimes (w : World) (b n : Nat) (c : M → Int) (k : Int) (a : Option Addr) (la cap : Nat) (f : Nat → T) (h : SumR w b n c) (hr : Rd w a la cap f) (hne : la = 0 ∨ ∀ b' off, a = some ⟨b', off, none⟩ → some b' ≠ some b)
    (hm : ∀ i, i < la → (f i).m.ok = true) (hc : ∀ i, i < la → 0 ≤ (f i).c ∧ (f i).c ≤ 100) (k0 : 0 ≤ k) (k1 : k ≤ 100) (hn : n + la ≤ 1000000) (hb : b < w.heap.size) :
    Calls Tryz.prog 102 #[.map (some b), .int .i64 k, .slice a la cap] w fun e w' => e = .returned (.tuple #[]) ∧ SumR w' b (n + la) (timesC k f c la) ∧ w.grownBy w' (some b) := by
  have HR := Hid.mk' hr
  have HS := Hid.mk' h
  have HM := Hid.mk' hm
  have HC := Hid.mk' hc
  have HNE := Hid.mk' hne
  have hl : (la : Int) ≤ 1000000 := by omega
  clear h hr hm hc hne
  go_enter Tryz.func102, Tryz.ntmps102
  go_wp2
  go_loopw [10] (fun i wr => ∃ j : Nat, j ≤ la ∧ i = .int .i64 j ∧ SumR wr b (n + j) (timesC k f c j) ∧ w.grownBy wr (some b)) (fun i _ => la - (intOf i).toNat)
  case atStart => exact ⟨0, Nat.zero_le _, rfl, HS.out, grown_refl w _⟩
  case round =>
    obtain ⟨j, hj, rfl, hS, hg⟩ := hrel
    by_cases hlt : j < la
    · have hjl : (j : Int) < (la : Int) := by omega
      have hrj := HR.out.grown hg HNE.out
      rcases hrj.2.2 with h0 | ⟨pb, off, rfl, hblt, hcl⟩
      · omega
      obtain ⟨g0, g1, g2, g3, g4⟩ := hcl j hlt
      have hmj := HM.out j hlt
      obtain ⟨c0, c1⟩ := HC.out j hlt
      have HSJ := Hid.mk' hS
      have HG := Hid.mk' hg
      clear hcl hrj hS hg
      go_wp2_with fail
      have HSQ := Hid.mk' (HSJ.out.grown (World.grownBy_alloc wr (.cells #[.int .i64 (f j).c, .int .i64 (f j).m.x, .int .i64 (f j).m.y, .int .i64 (f j).m.d, .int .i64 (f j).m.e] 54) none) (by simp))
      have HGQ := Hid.mk' (HG.out.trans (World.grownBy_alloc wr (.cells #[.int .i64 (f j).c, .int .i64 (f j).m.x, .int .i64 (f j).m.y, .int .i64 (f j).m.d, .int .i64 (f j).m.e] 54) (some b)))
      have hq : ∀ i v, #[Value.int .i64 (f j).c, .int .i64 (f j).m.x, .int .i64 (f j).m.y, .int .i64 (f j).m.d, .int .i64 (f j).m.e][i]? = some v → (wr.alloc (.cells #[.int .i64 (f j).c, .int .i64 (f j).m.x, .int .i64 (f j).m.y, .int .i64 (f j).m.d, .int .i64 (f j).m.e] 54)).cell? ⟨wr.heap.size, i, none⟩ = some v := fun i v hv => by rw [World.cell?_alloc_at _ _ _ _ rfl]; exact hv
      have q0 := hq 0 _ rfl
      have q1 := hq 1 _ rfl
      have q2 := hq 2 _ rfl
      have q3 := hq 3 _ rfl
      have q4 := hq 4 _ rfl
      clear hq g0 g1 g2 g3 g4 HSJ HG
      generalize (wr.alloc (.cells #[.int .i64 (f j).c, .int .i64 (f j).m.x, .int .i64 (f j).m.y, .int .i64 (f j).m.d, .int .i64 (f j).m.e] 54)) = wq at HSQ HGQ q0 q1 q2 q3 q4 ⊢
      have HADD := Hid.mk' (sumAddR b (n + j) (timesC k f c j) (k * (f j).c % 101) (f j).m wq.drew hmj (HSQ.out.grown (grown_drew wq) (by simp)) (by unfold maxLen; omega) (by omega) (by omega))
      go_region_with (first | (go_at_call 138; refine (times _ _ _ k0 k1 c0 c1).mono ?_; rintro r w2 ⟨rfl, hw⟩; obtain rfl := hw.symm; clear hw) | (go_at_call 137; refine HADD.out.mono ?_; rintro r w4 ⟨rfl, hS4, hg4⟩; have HS4 := Hid.mk' hS4; have HG4 := Hid.mk' ((HGQ.out.trans (grown_any (grown_drew wq))).trans hg4); clear hS4 hg4))
      all_goals
        go_wp2
        go_roundw
        case rel => exact ⟨j + 1, by omega, by go_num, HS4.out, HG4.out⟩
        case measure => simp [intOf]; omega
    · obtain rfl : j = la := by omega
      have HSJ := Hid.mk' hS
      have HG := Hid.mk' hg
      clear hS hg
      go_wp2
      go_end0
      exact ⟨rfl, HSJ.out, HG.out⟩
end Go.Proofs.YtmlaedpamobmhaaGreat
namespace Go.Proofs.YtmlaedpamobmhaaGreat
open Go.RowKit
set_option linter.unusedVariables false

theorem fromC_skip {f : Nat → T} {m : M} : ∀ (u i : Nat), (f (i + u)).m ≠ m → fromC f (u + 1) i m = fromC f u i m
  | 0, i, h => by
    show (if meqB (f i).m m = true then (f i).c else 0) = 0
    exact if_neg (fun e => h (meqB_iff.1 e))
  | u + 1, i, h => by
    have := fromC_skip (f := f) (m := m) u (i + 1) (by rw [show i + 1 + u = i + (u + 1) by omega]; exact h)
    show (if meqB (f i).m m = true then (f i).c else fromC f (u + 1) (i + 1) m) = (if meqB (f i).m m = true then (f i).c else fromC f u (i + 1) m)
    rw [this]
theorem fromC_hit {f : Nat → T} {m : M} : ∀ (u i : Nat), (∀ j, i ≤ j → j < i + u → (f j).m ≠ m) → (f (i + u)).m = m → fromC f (u + 1) i m = (f (i + u)).c
  | 0, i, _, h => by
    show (if meqB (f i).m m = true then (f i).c else 0) = (f i).c
    exact if_pos (meqB_iff.2 h)
  | u + 1, i, h0, h => by
    rw [fromC, if_neg (fun e => h0 i (Nat.le_refl _) (by omega) (meqB_iff.1 e))]
    have := fromC_hit (f := f) (m := m) u (i + 1) (fun j h1 h2 => h0 j (by omega) (by omega)) (by rw [show i + 1 + u = i + (u + 1) by omega]; exact h)
    rw [this, show i + 1 + u = i + (u + 1) by omega]
theorem timesC_is {k : Int} {f : Nat → T} {c : M → Int} {n : Nat} (F : Fl f n) (hc : ∀ m, 0 ≤ c m ∧ c m ≤ 100) : ∀ (i : Nat), i ≤ n → ∀ m, timesC k f c i m = (c m + k * fromC f i 0 m % 101) % 101
  | 0, _, m => by
    have := hc m
    simp only [timesC, fromC, Int.mul_zero]
    omega
  | i + 1, hi, m => by
    have ih := timesC_is (k := k) F hc i (by omega)
    simp only [timesC]
    by_cases hm : m = (f i).m
    · subst hm
      rw [updC_same, ih]
      have h0 : fromC f i 0 (f i).m = 0 := fromC_none i 0 (fun j _ h2 e => by have := F.1 j i (by omega) (by omega); rw [e] at this; omega)
      have h1 : fromC f (i + 1) 0 (f i).m = (f i).c := by
        have := fromC_hit (f := f) (m := (f i).m) i 0 (fun j _ h2 e => by have := F.1 j i (by omega) (by omega); rw [e] at this; omega) (by rw [Nat.zero_add])
        rw [this, Nat.zero_add]
      rw [h0, h1]
      have := hc (f i).m
      simp only [Int.mul_zero]
      omega
    · rw [updC_other hm, ih, fromC_skip i 0 (by rw [Nat.zero_add]; exact fun e => hm e.symm)]
/-- what the sum of a and c times b has as its numbers. -/
theorem sum_two {c : Int} {f g : Nat → T} {la lb : Nat} (F : Fl f la) (G : Fl g lb) (m : M) : timesC c g (timesC 1 f (fun _ => 0) la) lb m = (fromC f la 0 m + c * fromC g lb 0 m) % 101 := by
  have hz : ∀ m : M, (0 : Int) ≤ (fun _ => 0 : M → Int) m ∧ (fun _ => 0 : M → Int) m ≤ 100 := fun _ => ⟨Int.le_refl _, by show (0 : Int) ≤ 100; decide⟩
  have h1 := timesC_is (k := 1) F hz la (Nat.le_refl _)
  have h2 := timesC_is (k := c) G (c := timesC 1 f (fun _ => 0) la) (fun m => by rw [h1]; omega) lb (Nat.le_refl _) m
  rw [h2, h1]
  simp only [Int.one_mul]
  omega
end Go.Proofs.YtmlaedpamobmhaaGreat
namespace Go.Proofs.YtmlaedpamobmhaaGreat
open Go.RowKit
set_option linter.unusedVariables false

theorem owns_nil (w : World) (lo : Nat) : w.ownsRow lo 54 5 (.slice none 0 0) 0 (cellsL []) := ⟨rfl, .inl ⟨rfl, rfl⟩⟩
end Go.Proofs.YtmlaedpamobmhaaGreat
