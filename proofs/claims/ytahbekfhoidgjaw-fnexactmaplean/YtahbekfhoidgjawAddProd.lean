/-
  The product of two terms added to a sum.
-/
import Derived.Test.YtahbekfhoidgjawWylTI
import Derived.Test.YtahbekfhoidgjawMonoI2
namespace Go.Proofs.Ytahbekfhoidgjaw
open Go.RowKit Go.Maps
set_option linter.unusedVariables false

theorem Two.of {a b : T} (h1 : a.m.ok = true) (h2 : b.m.ok = true) (h3 : (a.m.sum b.m).ok = true) (c1 : 0 ≤ a.c ∧ a.c ≤ 100) (c2 : 0 ≤ b.c ∧ b.c ≤ 100) : Two a b (a.m.sum b.m) := ⟨h1, h2, h3, rfl, rfl, rfl, rfl, c1, c2⟩
set_option maxHeartbeats 1000000 in
theorem wylTermsV (a b : T) (g : M) (w : World) :
    Calls Try.prog 81 #[.agg #[.int .i64 a.c, .int .i64 a.m.x, .int .i64 a.m.y, .int .i64 a.m.d, .int .i64 a.m.e], .agg #[.int .i64 b.c, .int .i64 b.m.x, .int .i64 b.m.y, .int .i64 b.m.d, .int .i64 b.m.e], .agg #[.int .i64 g.x, .int .i64 g.y, .int .i64 g.d, .int .i64 g.e]] w fun e w' =>
      e = .returned (.func (.func 86) #[] #[.pointer (some ⟨w.heap.size, 0, none⟩), .pointer (some ⟨w.heap.size + 1, 0, none⟩), .pointer (some ⟨w.heap.size + 1 + 1, 0, none⟩)]) ∧
      w' = ((w.alloc (.cells #[.int .i64 a.c, .int .i64 a.m.x, .int .i64 a.m.y, .int .i64 a.m.d, .int .i64 a.m.e] 40)).alloc (.cells #[.int .i64 b.c, .int .i64 b.m.x, .int .i64 b.m.y, .int .i64 b.m.d, .int .i64 b.m.e] 40)).alloc (.cells #[.int .i64 g.x, .int .i64 g.y, .int .i64 g.d, .int .i64 g.e] 38) := by
  go_enter Try.func81, Try.ntmps81
  go_wp2
  go_ret
  exact ⟨rfl, rfl⟩
theorem below_grown {w w' : World} (h : Below w.heap.size w w') (row : Option Nat) : w.grownBy w' row := ⟨h.os, h.tape, h.output, h.size, fun k hk _ => h.block k hk⟩
set_option maxRecDepth 100000 in
set_option maxHeartbeats 4000000 in
theorem addProdNo (w : World) (bm : Nat) (a b : T) (h1 : a.m.ok = true) (h2 : b.m.ok = true) (h3 : (a.m.sum b.m).ok = false) :
    Calls Try.prog 71 #[.map (some bm), .agg #[.int .i64 a.c, .int .i64 a.m.x, .int .i64 a.m.y, .int .i64 a.m.d, .int .i64 a.m.e], .agg #[.int .i64 b.c, .int .i64 b.m.x, .int .i64 b.m.y, .int .i64 b.m.d, .int .i64 b.m.e]] w fun e w' => e = .returned (.bool false) ∧ Below w.heap.size w w' := by
  have hm : M.mul a.m b.m = (M.zero, false) := by simp [M.mul, h3]
  have hc := monMulI a.m.x a.m.y a.m.d a.m.e b.m.x b.m.y b.m.d b.m.e
  have ea : (⟨a.m.x, a.m.y, a.m.d, a.m.e⟩ : M) = a.m := rfl
  have eb : (⟨b.m.x, b.m.y, b.m.d, b.m.e⟩ : M) = b.m := rfl
  rw [ea, eb, hm] at hc
  go_enter Try.func71, Try.ntmps71
  go_wp2_with (go_at_call 79; refine (hc _).mono ?_; rintro e w1 ⟨rfl, hb1⟩)
  go_ret
  exact ⟨rfl, (bel_next ((bel_one w _).trans ((bel_one (w.alloc (.cells #[.int .i64 a.c, .int .i64 a.m.x, .int .i64 a.m.y, .int .i64 a.m.d, .int .i64 a.m.e] 40)) (.cells #[.int .i64 b.c, .int .i64 b.m.x, .int .i64 b.m.y, .int .i64 b.m.d, .int .i64 b.m.e] 40)).mono (by simp))) hb1).alloc (by have := hb1.size; simp at this; omega) _⟩
set_option maxRecDepth 100000 in
set_option maxHeartbeats 4000000 in
theorem addProdI (w : World) (bm : Nat) (c : M → Int) (hS : SumR w bm 65536 c) (a b : T) (h : Two a b (a.m.sum b.m)) {K : List T} (hK : Falls K) (hKc : ∀ m, m.ok = true → coef K m = addAll c (emit h (allX a b)) m) :
    Calls Try.prog 71 #[.map (some bm), .agg #[.int .i64 a.c, .int .i64 a.m.x, .int .i64 a.m.y, .int .i64 a.m.d, .int .i64 a.m.e], .agg #[.int .i64 b.c, .int .i64 b.m.x, .int .i64 b.m.y, .int .i64 b.m.d, .int .i64 b.m.e]] w fun e w' => e = .returned (.bool (decide (K.length ≤ 400))) ∧ SumR w' bm 65536 (addAll c (emit h (allX a b))) ∧ w.grownBy w' (some bm) := by
  have hm : M.mul a.m b.m = (a.m.sum b.m, true) := by simp [M.mul, h.ok1, h.ok2, h.ok3]
  have hc := monMulI a.m.x a.m.y a.m.d a.m.e b.m.x b.m.y b.m.d b.m.e
  have ea : (⟨a.m.x, a.m.y, a.m.d, a.m.e⟩ : M) = a.m := rfl
  have eb : (⟨b.m.x, b.m.y, b.m.d, b.m.e⟩ : M) = b.m := rfl
  rw [ea, eb, hm] at hc
  have HS := Hid.mk' hS
  have H := Hid.mk' h
  have hblt := hS.lt
  clear hS
  generalize a.m.sum b.m = g at *
  have hTA : TermAt ((w.alloc (.cells #[.int .i64 a.c, .int .i64 a.m.x, .int .i64 a.m.y, .int .i64 a.m.d, .int .i64 a.m.e] 40)).alloc (.cells #[.int .i64 b.c, .int .i64 b.m.x, .int .i64 b.m.y, .int .i64 b.m.d, .int .i64 b.m.e] 40)) w.heap.size a := (Below.heap_alloc _ _ _ (by simp)).trans (World.alloc_heap_new w _)
  have hTB : TermAt ((w.alloc (.cells #[.int .i64 a.c, .int .i64 a.m.x, .int .i64 a.m.y, .int .i64 a.m.d, .int .i64 a.m.e] 40)).alloc (.cells #[.int .i64 b.c, .int .i64 b.m.x, .int .i64 b.m.y, .int .i64 b.m.d, .int .i64 b.m.e] 40)) (w.heap.size + 1) b := by have := World.alloc_heap_new (w.alloc (.cells #[.int .i64 a.c, .int .i64 a.m.x, .int .i64 a.m.y, .int .i64 a.m.d, .int .i64 a.m.e] 40)) (.cells #[.int .i64 b.c, .int .i64 b.m.x, .int .i64 b.m.y, .int .i64 b.m.d, .int .i64 b.m.e] 40); rwa [World.size_alloc] at this
  have HTA := Hid.mk' hTA
  have HTB := Hid.mk' hTB
  have HBW := Hid.mk' (((Below.refl w.heap.size w).alloc (Nat.le_refl _) (.cells #[.int .i64 a.c, .int .i64 a.m.x, .int .i64 a.m.y, .int .i64 a.m.d, .int .i64 a.m.e] 40)).alloc (by simp) (.cells #[.int .i64 b.c, .int .i64 b.m.x, .int .i64 b.m.y, .int .i64 b.m.d, .int .i64 b.m.e] 40))
  clear hTA hTB
  go_enter Try.func71, Try.ntmps71
  go_wp2_with (first
    | (go_at_call 79; refine (hc _).mono ?_; rintro e w1 ⟨rfl, hb1⟩; have kA : TermAt w1 w.heap.size a := (hb1.block _ (by simp; omega)).trans HTA.out; have kB : TermAt w1 (w.heap.size + 1) b := (hb1.block _ (by simp)).trans HTB.out; obtain ⟨x0, x1, x2, x3, x4⟩ := kA.cells; obtain ⟨y0, y1, y2, y3, y4⟩ := kB.cells; have hs1 := hb1.size; simp only [World.size_alloc] at hs1; have hx1 : w.heap.size < w1.heap.size := (by omega); have hx2 : w.heap.size + 1 < w1.heap.size := (by omega); have HB1 := Hid.mk' (HBW.out.trans (hb1.mono (by simp; omega))); clear hb1 kA kB)
    | (go_at_call 81; refine (wylTermsV a b g _).mono ?_; rintro e w2 ⟨rfl, hw2⟩; obtain rfl := hw2.symm; clear hw2))
  obtain ⟨W3, hW3⟩ : ∃ W3, w1.alloc (.cells #[.int .i64 g.x, .int .i64 g.y, .int .i64 g.d, .int .i64 g.e] 38) = W3 := ⟨_, rfl⟩
  have hs3 : W3.heap.size = w1.heap.size + 1 := by rw [← hW3]; simp
  have hb3 : Below w.heap.size w W3 := by rw [← hW3]; exact HB1.out.alloc HB1.out.size _
  rw [hW3]
  clear hW3 x0 x1 x2 x3 x4 y0 y1 y2 y3 y4
  have tA : TermAt (((W3.alloc (.cells #[.int .i64 a.c, .int .i64 a.m.x, .int .i64 a.m.y, .int .i64 a.m.d, .int .i64 a.m.e] 40)).alloc (.cells #[.int .i64 b.c, .int .i64 b.m.x, .int .i64 b.m.y, .int .i64 b.m.d, .int .i64 b.m.e] 40)).alloc (.cells #[.int .i64 g.x, .int .i64 g.y, .int .i64 g.d, .int .i64 g.e] 38)) (w1.heap.size + 1) a := by
    have := World.alloc_heap_new W3 (.cells #[.int .i64 a.c, .int .i64 a.m.x, .int .i64 a.m.y, .int .i64 a.m.d, .int .i64 a.m.e] 40)
    rw [hs3] at this
    exact (Below.heap_alloc _ _ _ (by simp; omega)).trans ((Below.heap_alloc _ _ _ (by simp; omega)).trans this)
  have tB : TermAt (((W3.alloc (.cells #[.int .i64 a.c, .int .i64 a.m.x, .int .i64 a.m.y, .int .i64 a.m.d, .int .i64 a.m.e] 40)).alloc (.cells #[.int .i64 b.c, .int .i64 b.m.x, .int .i64 b.m.y, .int .i64 b.m.d, .int .i64 b.m.e] 40)).alloc (.cells #[.int .i64 g.x, .int .i64 g.y, .int .i64 g.d, .int .i64 g.e] 38)) (w1.heap.size + 1 + 1) b := by
    have := World.alloc_heap_new (W3.alloc (.cells #[.int .i64 a.c, .int .i64 a.m.x, .int .i64 a.m.y, .int .i64 a.m.d, .int .i64 a.m.e] 40)) (.cells #[.int .i64 b.c, .int .i64 b.m.x, .int .i64 b.m.y, .int .i64 b.m.d, .int .i64 b.m.e] 40)
    rw [World.size_alloc, hs3] at this
    exact (Below.heap_alloc _ _ _ (by simp; omega)).trans this
  have tG : GAt (((W3.alloc (.cells #[.int .i64 a.c, .int .i64 a.m.x, .int .i64 a.m.y, .int .i64 a.m.d, .int .i64 a.m.e] 40)).alloc (.cells #[.int .i64 b.c, .int .i64 b.m.x, .int .i64 b.m.y, .int .i64 b.m.d, .int .i64 b.m.e] 40)).alloc (.cells #[.int .i64 g.x, .int .i64 g.y, .int .i64 g.d, .int .i64 g.e] 38)) (w1.heap.size + 1 + 1 + 1) g := by
    have := World.alloc_heap_new ((W3.alloc (.cells #[.int .i64 a.c, .int .i64 a.m.x, .int .i64 a.m.y, .int .i64 a.m.d, .int .i64 a.m.e] 40)).alloc (.cells #[.int .i64 b.c, .int .i64 b.m.x, .int .i64 b.m.y, .int .i64 b.m.d, .int .i64 b.m.e] 40)) (.cells #[.int .i64 g.x, .int .i64 g.y, .int .i64 g.d, .int .i64 g.e] 38)
    rw [World.size_alloc, World.size_alloc, hs3] at this
    exact this
  have hb4 : Below w.heap.size w (((W3.alloc (.cells #[.int .i64 a.c, .int .i64 a.m.x, .int .i64 a.m.y, .int .i64 a.m.d, .int .i64 a.m.e] 40)).alloc (.cells #[.int .i64 b.c, .int .i64 b.m.x, .int .i64 b.m.y, .int .i64 b.m.d, .int .i64 b.m.e] 40)).alloc (.cells #[.int .i64 g.x, .int .i64 g.y, .int .i64 g.d, .int .i64 g.e] 38)) := ((hb3.alloc hb3.size _).alloc (by have := hb3.size; simp; omega) _).alloc (by have := hb3.size; simp; omega) _
  generalize ((W3.alloc (.cells #[.int .i64 a.c, .int .i64 a.m.x, .int .i64 a.m.y, .int .i64 a.m.d, .int .i64 a.m.e] 40)).alloc (.cells #[.int .i64 b.c, .int .i64 b.m.x, .int .i64 b.m.y, .int .i64 b.m.d, .int .i64 b.m.e] 40)).alloc (.cells #[.int .i64 g.x, .int .i64 g.y, .int .i64 g.d, .int .i64 g.e] 38) = W4 at *
  have hS4 : SumR W4 bm 65536 c := HS.out.grown (below_grown hb4 none) (by simp)
  refine (gatherI W4 bm c hS4 86 _ (enters_of Try.func86 (by kernel_rfl) rfl) _ (termsL H.out (w1.heap.size + 1) (w1.heap.size + 1 + 1) (w1.heap.size + 1 + 1 + 1) W4 tA tB tG)).mono ?_
  rintro e w5 ⟨rfl, hs5, hg5⟩
  have HS5 := Hid.mk' hs5
  have HG5 := Hid.mk' ((below_grown hb4 (some bm)).trans hg5)
  obtain ⟨D, ho, hc5, hat5, hks5⟩ := hs5
  have hszD := size_K ho hat5 hks5 hK hKc
  have hlen := ho.len Try.underlying50 3
  rw [hszD] at hlen
  have hd : decide ((K.length : Int) ≤ 400) = decide (K.length ≤ 400) := by by_cases hk4 : K.length ≤ 400 <;> simp [hk4] <;> omega
  clear ho hat5 hks5 hc5 hg5 hS4 tA tB tG
  go_wp2
  go_ret
  exact ⟨by rw [← hd]; rfl, HS5.out, HG5.out⟩
end Go.Proofs.Ytahbekfhoidgjaw
