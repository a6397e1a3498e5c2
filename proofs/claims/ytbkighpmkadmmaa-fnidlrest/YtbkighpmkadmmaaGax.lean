/-
  The product of two terms added to a sum.
  Products of operators: their lists and numbers.
  The product of two operators: the program.
-/
import Derived.Test.YtbkighpmkadmmaaGaw
import Derived.Test.YtbkighpmkadmmaaGac
import Derived.Test.YtbkighpmkadmmaaGan
import Derived.Test.YtbkighpmkadmmaaGau
namespace Go.Proofs.Ytbkighpmkadmmaa
open Go.RowKit Go.Maps
set_option linter.unusedVariables false

theorem Two.of {a b : T} (h1 : a.m.ok = true) (h2 : b.m.ok = true) (h3 : (a.m.sum b.m).ok = true) (c1 : 0 ≤ a.c ∧ a.c ≤ 100) (c2 : 0 ≤ b.c ∧ b.c ≤ 100) : Two a b (a.m.sum b.m) := ⟨h1, h2, h3, rfl, rfl, rfl, rfl, c1, c2⟩
set_option maxHeartbeats 1000000 in
theorem wylTermsV (a b : T) (g : M) (w : World) :
    Calls Try.prog 96 #[.agg #[.int .i64 a.c, .int .i64 a.m.x, .int .i64 a.m.y, .int .i64 a.m.d, .int .i64 a.m.e], .agg #[.int .i64 b.c, .int .i64 b.m.x, .int .i64 b.m.y, .int .i64 b.m.d, .int .i64 b.m.e], .agg #[.int .i64 g.x, .int .i64 g.y, .int .i64 g.d, .int .i64 g.e]] w fun e w' =>
      e = .returned (.func (.func 113) #[] #[.pointer (some ⟨w.heap.size, 0, none⟩), .pointer (some ⟨w.heap.size + 1, 0, none⟩), .pointer (some ⟨w.heap.size + 1 + 1, 0, none⟩)]) ∧
      w' = ((w.alloc (.cells #[.int .i64 a.c, .int .i64 a.m.x, .int .i64 a.m.y, .int .i64 a.m.d, .int .i64 a.m.e] 33)).alloc (.cells #[.int .i64 b.c, .int .i64 b.m.x, .int .i64 b.m.y, .int .i64 b.m.d, .int .i64 b.m.e] 33)).alloc (.cells #[.int .i64 g.x, .int .i64 g.y, .int .i64 g.d, .int .i64 g.e] 31) := by
  go_enter Try.func96, Try.ntmps96
  go_wp2
  go_ret
  exact ⟨rfl, rfl⟩
theorem below_grown {w w' : World} (h : Below w.heap.size w w') (row : Option Nat) : w.grownBy w' row := ⟨h.os, h.tape, h.output, h.size, fun k hk _ => h.block k hk⟩
set_option maxRecDepth 100000 in
set_option maxHeartbeats 4000000 in
theorem addProdNo (w : World) (bm : Nat) (a b : T) (h1 : a.m.ok = true) (h2 : b.m.ok = true) (h3 : (a.m.sum b.m).ok = false) :
    Calls Try.prog 67 #[.map (some bm), .agg #[.int .i64 a.c, .int .i64 a.m.x, .int .i64 a.m.y, .int .i64 a.m.d, .int .i64 a.m.e], .agg #[.int .i64 b.c, .int .i64 b.m.x, .int .i64 b.m.y, .int .i64 b.m.d, .int .i64 b.m.e]] w fun e w' => e = .returned (.bool false) ∧ Below w.heap.size w w' := by
  have hm : M.mul a.m b.m = (M.zero, false) := by simp [M.mul, h3]
  have hc := monMulI a.m.x a.m.y a.m.d a.m.e b.m.x b.m.y b.m.d b.m.e
  have ea : (⟨a.m.x, a.m.y, a.m.d, a.m.e⟩ : M) = a.m := rfl
  have eb : (⟨b.m.x, b.m.y, b.m.d, b.m.e⟩ : M) = b.m := rfl
  rw [ea, eb, hm] at hc
  go_enter Try.func67, Try.ntmps67
  go_wp2_with (go_at_call 36; refine (hc _).mono ?_; rintro e w1 ⟨rfl, hb1⟩)
  go_ret
  exact ⟨rfl, (bel_next ((bel_one w _).trans ((bel_one (w.alloc (.cells #[.int .i64 a.c, .int .i64 a.m.x, .int .i64 a.m.y, .int .i64 a.m.d, .int .i64 a.m.e] 33)) (.cells #[.int .i64 b.c, .int .i64 b.m.x, .int .i64 b.m.y, .int .i64 b.m.d, .int .i64 b.m.e] 33)).mono (by simp))) hb1).alloc (by have := hb1.size; simp at this; omega) _⟩
set_option maxRecDepth 100000 in
set_option maxHeartbeats 4000000 in
theorem addProdI (w : World) (bm : Nat) (c : M → Int) (hS : SumR w bm 65536 c) (a b : T) (h : Two a b (a.m.sum b.m)) {K : List T} (hK : Falls K) (hKc : ∀ m, m.ok = true → coef K m = addAll c (emit h (allX a b)) m) :
    Calls Try.prog 67 #[.map (some bm), .agg #[.int .i64 a.c, .int .i64 a.m.x, .int .i64 a.m.y, .int .i64 a.m.d, .int .i64 a.m.e], .agg #[.int .i64 b.c, .int .i64 b.m.x, .int .i64 b.m.y, .int .i64 b.m.d, .int .i64 b.m.e]] w fun e w' => e = .returned (.bool (decide (K.length ≤ 400))) ∧ SumR w' bm 65536 (addAll c (emit h (allX a b))) ∧ w.grownBy w' (some bm) := by
  have hm : M.mul a.m b.m = (a.m.sum b.m, true) := by simp [M.mul, h.ok1, h.ok2, h.ok3]
  have hc := monMulI a.m.x a.m.y a.m.d a.m.e b.m.x b.m.y b.m.d b.m.e
  have ea : (⟨a.m.x, a.m.y, a.m.d, a.m.e⟩ : M) = a.m := rfl
  have eb : (⟨b.m.x, b.m.y, b.m.d, b.m.e⟩ : M) = b.m := rfl
  rw [ea, eb, hm] at hc
  have HS := Hid.mk' hS
  have H := Hid.mk' h
  have hblt := hS.lt
  clear hS
  generalize a.m.sum b.m = g at *
  have hTA : TermAt ((w.alloc (.cells #[.int .i64 a.c, .int .i64 a.m.x, .int .i64 a.m.y, .int .i64 a.m.d, .int .i64 a.m.e] 33)).alloc (.cells #[.int .i64 b.c, .int .i64 b.m.x, .int .i64 b.m.y, .int .i64 b.m.d, .int .i64 b.m.e] 33)) w.heap.size a := (Below.heap_alloc _ _ _ (by simp)).trans (World.alloc_heap_new w _)
  have hTB : TermAt ((w.alloc (.cells #[.int .i64 a.c, .int .i64 a.m.x, .int .i64 a.m.y, .int .i64 a.m.d, .int .i64 a.m.e] 33)).alloc (.cells #[.int .i64 b.c, .int .i64 b.m.x, .int .i64 b.m.y, .int .i64 b.m.d, .int .i64 b.m.e] 33)) (w.heap.size + 1) b := by have := World.alloc_heap_new (w.alloc (.cells #[.int .i64 a.c, .int .i64 a.m.x, .int .i64 a.m.y, .int .i64 a.m.d, .int .i64 a.m.e] 33)) (.cells #[.int .i64 b.c, .int .i64 b.m.x, .int .i64 b.m.y, .int .i64 b.m.d, .int .i64 b.m.e] 33); rwa [World.size_alloc] at this
  have HTA := Hid.mk' hTA
  have HTB := Hid.mk' hTB
  have HBW := Hid.mk' (((Below.refl w.heap.size w).alloc (Nat.le_refl _) (.cells #[.int .i64 a.c, .int .i64 a.m.x, .int .i64 a.m.y, .int .i64 a.m.d, .int .i64 a.m.e] 33)).alloc (by simp) (.cells #[.int .i64 b.c, .int .i64 b.m.x, .int .i64 b.m.y, .int .i64 b.m.d, .int .i64 b.m.e] 33))
  clear hTA hTB
  go_enter Try.func67, Try.ntmps67
  go_wp2_with (first
    | (go_at_call 36; refine (hc _).mono ?_; rintro e w1 ⟨rfl, hb1⟩; have kA : TermAt w1 w.heap.size a := (hb1.block _ (by simp; omega)).trans HTA.out; have kB : TermAt w1 (w.heap.size + 1) b := (hb1.block _ (by simp)).trans HTB.out; obtain ⟨x0, x1, x2, x3, x4⟩ := kA.cells; obtain ⟨y0, y1, y2, y3, y4⟩ := kB.cells; have hs1 := hb1.size; simp only [World.size_alloc] at hs1; have hx1 : w.heap.size < w1.heap.size := (by omega); have hx2 : w.heap.size + 1 < w1.heap.size := (by omega); have HB1 := Hid.mk' (HBW.out.trans (hb1.mono (by simp; omega))); clear hb1 kA kB)
    | (go_at_call 96; refine (wylTermsV a b g _).mono ?_; rintro e w2 ⟨rfl, hw2⟩; obtain rfl := hw2.symm; clear hw2))
  obtain ⟨W3, hW3⟩ : ∃ W3, w1.alloc (.cells #[.int .i64 g.x, .int .i64 g.y, .int .i64 g.d, .int .i64 g.e] 31) = W3 := ⟨_, rfl⟩
  have hs3 : W3.heap.size = w1.heap.size + 1 := by rw [← hW3]; simp
  have hb3 : Below w.heap.size w W3 := by rw [← hW3]; exact HB1.out.alloc HB1.out.size _
  rw [hW3]
  clear hW3 x0 x1 x2 x3 x4 y0 y1 y2 y3 y4
  have tA : TermAt (((W3.alloc (.cells #[.int .i64 a.c, .int .i64 a.m.x, .int .i64 a.m.y, .int .i64 a.m.d, .int .i64 a.m.e] 33)).alloc (.cells #[.int .i64 b.c, .int .i64 b.m.x, .int .i64 b.m.y, .int .i64 b.m.d, .int .i64 b.m.e] 33)).alloc (.cells #[.int .i64 g.x, .int .i64 g.y, .int .i64 g.d, .int .i64 g.e] 31)) (w1.heap.size + 1) a := by
    have := World.alloc_heap_new W3 (.cells #[.int .i64 a.c, .int .i64 a.m.x, .int .i64 a.m.y, .int .i64 a.m.d, .int .i64 a.m.e] 33)
    rw [hs3] at this
    exact (Below.heap_alloc _ _ _ (by simp; omega)).trans ((Below.heap_alloc _ _ _ (by simp; omega)).trans this)
  have tB : TermAt (((W3.alloc (.cells #[.int .i64 a.c, .int .i64 a.m.x, .int .i64 a.m.y, .int .i64 a.m.d, .int .i64 a.m.e] 33)).alloc (.cells #[.int .i64 b.c, .int .i64 b.m.x, .int .i64 b.m.y, .int .i64 b.m.d, .int .i64 b.m.e] 33)).alloc (.cells #[.int .i64 g.x, .int .i64 g.y, .int .i64 g.d, .int .i64 g.e] 31)) (w1.heap.size + 1 + 1) b := by
    have := World.alloc_heap_new (W3.alloc (.cells #[.int .i64 a.c, .int .i64 a.m.x, .int .i64 a.m.y, .int .i64 a.m.d, .int .i64 a.m.e] 33)) (.cells #[.int .i64 b.c, .int .i64 b.m.x, .int .i64 b.m.y, .int .i64 b.m.d, .int .i64 b.m.e] 33)
    rw [World.size_alloc, hs3] at this
    exact (Below.heap_alloc _ _ _ (by simp; omega)).trans this
  have tG : GAt (((W3.alloc (.cells #[.int .i64 a.c, .int .i64 a.m.x, .int .i64 a.m.y, .int .i64 a.m.d, .int .i64 a.m.e] 33)).alloc (.cells #[.int .i64 b.c, .int .i64 b.m.x, .int .i64 b.m.y, .int .i64 b.m.d, .int .i64 b.m.e] 33)).alloc (.cells #[.int .i64 g.x, .int .i64 g.y, .int .i64 g.d, .int .i64 g.e] 31)) (w1.heap.size + 1 + 1 + 1) g := by
    have := World.alloc_heap_new ((W3.alloc (.cells #[.int .i64 a.c, .int .i64 a.m.x, .int .i64 a.m.y, .int .i64 a.m.d, .int .i64 a.m.e] 33)).alloc (.cells #[.int .i64 b.c, .int .i64 b.m.x, .int .i64 b.m.y, .int .i64 b.m.d, .int .i64 b.m.e] 33)) (.cells #[.int .i64 g.x, .int .i64 g.y, .int .i64 g.d, .int .i64 g.e] 31)
    rw [World.size_alloc, World.size_alloc, hs3] at this
    exact this
  have hb4 : Below w.heap.size w (((W3.alloc (.cells #[.int .i64 a.c, .int .i64 a.m.x, .int .i64 a.m.y, .int .i64 a.m.d, .int .i64 a.m.e] 33)).alloc (.cells #[.int .i64 b.c, .int .i64 b.m.x, .int .i64 b.m.y, .int .i64 b.m.d, .int .i64 b.m.e] 33)).alloc (.cells #[.int .i64 g.x, .int .i64 g.y, .int .i64 g.d, .int .i64 g.e] 31)) := ((hb3.alloc hb3.size _).alloc (by have := hb3.size; simp; omega) _).alloc (by have := hb3.size; simp; omega) _
  generalize ((W3.alloc (.cells #[.int .i64 a.c, .int .i64 a.m.x, .int .i64 a.m.y, .int .i64 a.m.d, .int .i64 a.m.e] 33)).alloc (.cells #[.int .i64 b.c, .int .i64 b.m.x, .int .i64 b.m.y, .int .i64 b.m.d, .int .i64 b.m.e] 33)).alloc (.cells #[.int .i64 g.x, .int .i64 g.y, .int .i64 g.d, .int .i64 g.e] 31) = W4 at *
  have hS4 : SumR W4 bm 65536 c := HS.out.grown (below_grown hb4 none) (by simp)
  refine (gatherI W4 bm c hS4 113 _ (enters_of Try.func113 (by kernel_rfl) rfl) _ (termsL H.out (w1.heap.size + 1) (w1.heap.size + 1 + 1) (w1.heap.size + 1 + 1 + 1) W4 tA tB tG)).mono ?_
  rintro e w5 ⟨rfl, hs5, hg5⟩
  have HS5 := Hid.mk' hs5
  have HG5 := Hid.mk' ((below_grown hb4 (some bm)).trans hg5)
  obtain ⟨D, ho, hc5, hat5, hks5⟩ := hs5
  have hszD := size_K ho hat5 hks5 hK hKc
  have hlen := ho.len Try.underlying98 3
  rw [hszD] at hlen
  have hd : decide ((K.length : Int) ≤ 400) = decide (K.length ≤ 400) := by by_cases hk4 : K.length ≤ 400 <;> simp [hk4] <;> omega
  clear ho hat5 hks5 hc5 hg5 hS4 tA tB tG
  go_wp2
  go_ret
  exact ⟨by rw [← hd]; rfl, HS5.out, HG5.out⟩
end Go.Proofs.Ytbkighpmkadmmaa
namespace Go.Proofs.Ytbkighpmkadmmaa
open Go.RowKit
set_option linter.unusedVariables false

/-- the term of a product in which i of the first slopes and k of the second ones were taken. -/
def termN (a b : T) (i k : Nat) : T := ⟨a.c * b.c % 101 * wy a.m.d b.m.x i % 101 * wy a.m.e b.m.y k % 101, ⟨a.m.x + b.m.x - i, a.m.y + b.m.y - k, a.m.d + b.m.d - i, a.m.e + b.m.e - k⟩⟩
def rowN (a b : T) (i k : Nat) : List T := (List.range k).map (termN a b i)
def emitN (a b : T) (i : Nat) : List T := (List.range i).flatMap fun i => rowN a b i (limY a b + 1)
theorem emitN_succ (a b : T) (i : Nat) : emitN a b (i + 1) = emitN a b i ++ rowN a b i (limY a b + 1) := by simp [emitN, List.range_succ]
theorem rowN_succ (a b : T) (i k : Nat) : rowN a b i (k + 1) = rowN a b i k ++ [termN a b i k] := by simp [rowN, List.range_succ]
theorem takeK_fst {lim : Nat} {s t : Int} {k : Nat} (h : k ≤ lim) : (takeK lim s t k).1.1 = (k : Int) := if_pos h
theorem emit_is {a b : T} {g : M} (h : Two a b g) : (emit h (allX a b)).map (·.1) = emitN a b (limX a b + 1) := by
  have key : ∀ i, i ≤ limX a b → ((allY a b).map (termK h (takeK (limX a b) a.m.d b.m.x i))).map (·.1) = rowN a b i (limY a b + 1) := fun i hi => by
    unfold allY uptoK rowN
    rw [List.map_map, List.map_map]
    refine List.map_congr_left (fun k hk => ?_)
    rw [List.mem_range] at hk
    show termT a b g (takeK (limX a b) a.m.d b.m.x i) (takeK (limY a b) a.m.e b.m.y k) = termN a b i k
    unfold termT termN
    rw [takeK_fst hi, takeK_fst (show k ≤ limY a b by omega), h.gx, h.gy, h.gd, h.ge]
    rfl
  have : ∀ n, n ≤ limX a b + 1 → (emit h (uptoK (limX a b) a.m.d b.m.x n)).map (·.1) = emitN a b n := fun n => by
    induction n with
    | zero => intro _; rfl
    | succ n ih =>
      intro hn
      rw [← uptoK_succ, emit_snoc, List.map_append, ih (by omega), key n (by omega), emitN_succ]
  exact this _ (Nat.le_refl _)
theorem addAll_is (c : M → Int) (xs : List TO) : addAll c xs = addAllT c (xs.map (·.1)) := by
  unfold addAll addAllT
  rw [List.foldl_map]
theorem emit_tok {a b : T} {g : M} (h : Two a b g) : TOK (emitN a b (limX a b + 1)) := by
  rw [← emit_is h]
  intro t ht
  obtain ⟨x, _, rfl⟩ := List.mem_map.1 ht
  exact x.2
/-- the product of two terms. -/
def pairL (a b : T) : List T := putAll (emitN a b (limX a b + 1)) []
theorem pairL_facts {a b : T} {g : M} (h : Two a b g) : Falls (pairL a b) ∧ coef (pairL a b) = addAllT (fun _ => 0) (emitN a b (limX a b + 1)) := putAll_facts _ [] (emit_tok h) falls_nil
theorem addL_pair {a b : T} {g : M} (h : Two a b g) {K : List T} (hK : Falls K) {c : M → Int} (hc : ∀ m, 0 ≤ c m ∧ c m ≤ 100) (hKc : ∀ m, m.ok = true → coef K m = c m) : Falls (addL K (pairL a b)) ∧ ∀ m, m.ok = true → coef (addL K (pairL a b)) m = addAll c (emit h (allX a b)) m := by
  have h1 := pairL_facts h
  have h2 := addL_facts hK h1.1
  refine ⟨h2.1, fun m hm => ?_⟩
  rw [h2.2, h1.2, hKc m hm, addAll_is, emit_is h, addAllT_add _ c m (emit_tok h) hc]
/-- one step of a product: nothing, if it is too much. -/
def stepM (K : List T) (a b : T) : Option (List T) := if (a.m.sum b.m).ok = true ∧ (addL K (pairL a b)).length ≤ 400 then some (addL K (pairL a b)) else none
def rowM (K : List T) (a : T) (g : Nat → T) : Nat → Option (List T)
  | 0 => some K
  | k + 1 => (rowM K a g k).bind fun K' => stepM K' a (g k)
def mulM (f : Nat → T) (g : Nat → T) (lb : Nat) : Nat → Option (List T)
  | 0 => some []
  | i + 1 => (mulM f g lb i).bind fun K => rowM K (f i) g lb
theorem rowM_none {K : List T} {a : T} {g : Nat → T} {k : Nat} (h : rowM K a g k = none) : ∀ j, k ≤ j → rowM K a g j = none := fun j hj => by
  induction j with
  | zero =>
    have e : k = 0 := by omega
    rw [e] at h
    exact h
  | succ j ih =>
    by_cases e : k = j + 1
    · rw [← e]; exact h
    · rw [rowM, ih (by omega)]; rfl
theorem mulM_none {f g : Nat → T} {lb i : Nat} (h : mulM f g lb i = none) : ∀ j, i ≤ j → mulM f g lb j = none := fun j hj => by
  induction j with
  | zero =>
    have e : i = 0 := by omega
    rw [e] at h
    exact h
  | succ j ih =>
    by_cases e : i = j + 1
    · rw [← e]; exact h
    · rw [mulM, ih (by omega)]; rfl
def wylMul (f : Nat → T) (la : Nat) (g : Nat → T) (lb : Nat) : List T × Bool := if polOk la f = true ∧ polOk lb g = true then mulO (mulM f g lb la) else ([], false)
theorem rowM_len {K : List T} {a : T} {g : Nat → T} (hK : K.length ≤ 400) : ∀ k K', rowM K a g k = some K' → K'.length ≤ 400
  | 0, K', h => by cases h; exact hK
  | k + 1, K', h => by
    rw [rowM] at h
    cases hr : rowM K a g k with
    | none => rw [hr] at h; cases h
    | some K1 =>
      rw [hr] at h
      change stepM K1 a (g k) = some K' at h
      unfold stepM at h
      split at h
      · rename_i hh; cases h; exact hh.2
      · cases h
theorem mulM_len {f g : Nat → T} {lb : Nat} : ∀ i K, mulM f g lb i = some K → K.length ≤ 400
  | 0, K, h => by cases h; exact Nat.zero_le _
  | i + 1, K, h => by
    rw [mulM] at h
    cases hr : mulM f g lb i with
    | none => rw [hr] at h; cases h
    | some K1 =>
      rw [hr] at h
      exact rowM_len (mulM_len i K1 hr) lb K h
theorem wylMul_len (f : Nat → T) (la : Nat) (g : Nat → T) (lb : Nat) : (wylMul f la g lb).1.length ≤ 400 := by
  unfold wylMul
  split
  · cases h : mulM f g lb la with
    | none => simp [mulO]
    | some K => exact mulM_len la K h
  · simp
end Go.Proofs.Ytbkighpmkadmmaa
namespace Go.Proofs.Ytbkighpmkadmmaa
open Go.RowKit Go.Maps
set_option linter.unusedVariables false

set_option maxRecDepth 100000 in
set_option maxHeartbeats 8000000 in
theorem wylMulV (w : World) (a b : Option Addr) (la ca lb cb : Nat) (f g : Nat → T) (ha : Rd w a la ca f) (hb : Rd w b lb cb g) :
    Calls Try.prog 29 #[.slice a la ca, .slice b lb cb] w fun r w' => ∃ v, r = .returned (.tuple #[v, .bool (wylMul f la g lb).2]) ∧ Below w.heap.size w w' ∧ w'.ownsRow w.heap.size 33 5 v (wylMul f la g lb).1.length (cellsL (wylMul f la g lb).1) := by
  have HA := Hid.mk' ha
  have HB := Hid.mk' hb
  have hla : (la : Int) ≤ 140737488351232 := by have := ha.2.1; omega
  have hlb : (lb : Int) ≤ 140737488351232 := by have := hb.2.1; omega
  clear ha hb
  cases hpa : polOk la f
  · have e1 : wylMul f la g lb = ([], false) := by simp [wylMul, hpa]
    rw [e1]
    go_enter Try.func29, Try.ntmps29
    go_wp2_with (go_at_call 40; refine (polOkI _ _ _ _ f HA.out).mono ?_; rw [hpa]; rintro r w1 ⟨rfl, hb1⟩; have HB1 := Hid.mk' hb1; clear hb1)
    refine bodyPost_ret (results_tmp2 rfl _ _ _) rfl ?_
    exact ⟨_, rfl, HB1.out, owns_nil w1 _⟩
  · cases hpb : polOk lb g
    · have e1 : wylMul f la g lb = ([], false) := by simp [wylMul, hpb]
      rw [e1]
      go_enter Try.func29, Try.ntmps29
      go_wp2_with (first
        | (go_at_call_of 40 (Value.slice a la ca); refine (polOkI _ _ _ _ f HA.out).mono ?_; rw [hpa]; rintro r w1 ⟨rfl, hb1⟩; have HB1 := Hid.mk' hb1; clear hb1)
        | (go_at_call_of 40 (Value.slice b lb cb); refine (polOkI _ _ _ _ g (HB.out.below HB1.out)).mono ?_; rw [hpb]; rintro r w2 ⟨rfl, hb2⟩; have HB2 := Hid.mk' hb2; clear hb2))
      refine bodyPost_ret (results_tmp2 rfl _ _ _) rfl ?_
      exact ⟨_, rfl, bel_next HB1.out HB2.out, owns_nil w2 _⟩
    · have e2 : wylMul f la g lb = mulO (mulM f g lb la) := by simp [wylMul, hpa, hpb]
      rw [e2]
      clear e2
      have l1 : la ≤ 400 := by have h := hpa; simp only [polOk, decide_eq_true_eq] at h; exact h.1
      have l2 : lb ≤ 400 := by have h := hpb; simp only [polOk, decide_eq_true_eq] at h; exact h.1
      have HPA := Hid.mk' hpa
      have HPB := Hid.mk' hpb
      have hmm := @run_makeMap Try.prog
      go_enter Try.func29, Try.ntmps29
      go_wp2_with (first
        | (go_at_call_of 40 (Value.slice a la ca); refine (polOkI _ _ _ _ f HA.out).mono ?_; rw [hpa]; rintro r w1 ⟨rfl, hb1⟩; have HB1 := Hid.mk' hb1; clear hb1)
        | (go_at_call_of 40 (Value.slice b lb cb); refine (polOkI _ _ _ _ g (HB.out.below HB1.out)).mono ?_; rw [hpb]; rintro r w2 ⟨rfl, hb2⟩; have HB2 := Hid.mk' (bel_next HB1.out hb2); clear hb2))
      clear hpa hpb
      have HRA := Hid.mk' (HA.out.below HB2.out)
      have HRB := Hid.mk' (HB.out.below HB2.out)
      have HNA := Hid.mk' (HRA.out.apart (Nat.le_refl _))
      have HNB := Hid.mk' (HRB.out.apart (Nat.le_refl _))
      have hlo : w.heap.size ≤ w2.heap.size := HB2.out.size
      have HS0 := Hid.mk' ((sumNew w2).cap)
      have HG0 := Hid.mk' (World.grownBy_alloc w2 (.map #[] 0) (some w2.heap.size))
      generalize hw3 : w2.alloc (.map #[] 0) = w3 at *
      clear hw3 hmm
      go_loopw [22] (fun v wr => ∃ (i : Nat) (K : List T) (c : M → Int), i ≤ la ∧ v = .int .i64 (i : Int) ∧ mulM f g lb i = some K ∧ Falls K ∧ (∀ m, m.ok = true → coef K m = c m) ∧ SumR wr w2.heap.size 65536 c ∧ w2.grownBy wr (some w2.heap.size)) (fun v _ => la - (intOf v).toNat)
      case atStart => exact ⟨0, [], fun _ => 0, Nat.zero_le _, rfl, rfl, falls_nil, fun _ _ => rfl, HS0.out, HG0.out⟩
      case round =>
        obtain ⟨i, K, c, hi, rfl, hM, hKf, hKc, hS, hg⟩ := hrel
        by_cases hlt : i < la
        · have hil : (i : Int) < (la : Int) := by omega
          have hri := HRA.out.grown hg HNA.out
          rcases hri.2.2 with h0 | ⟨pb, off, hpe, hblt, hcl⟩
          · omega
          obtain ⟨g0, g1, g2, g3, g4⟩ := hcl i hlt
          have hfi := polOk_at HPA.out hlt
          have HS := Hid.mk' hS
          have HG := Hid.mk' hg
          have HM := Hid.mk' hM
          clear hcl hri hS hg hM
          subst hpe
          go_wp2
          have hT1 : TermAt (wr.alloc (.cells #[.int .i64 (f i).c, .int .i64 (f i).m.x, .int .i64 (f i).m.y, .int .i64 (f i).m.d, .int .i64 (f i).m.e] 33)) wr.heap.size (f i) := World.alloc_heap_new wr _
          have HS1 := Hid.mk' (HS.out.grown (World.grownBy_alloc wr (.cells #[.int .i64 (f i).c, .int .i64 (f i).m.x, .int .i64 (f i).m.y, .int .i64 (f i).m.d, .int .i64 (f i).m.e] 33) none) (by simp))
          have HG1 := Hid.mk' (HG.out.trans (World.grownBy_alloc wr (.cells #[.int .i64 (f i).c, .int .i64 (f i).m.x, .int .i64 (f i).m.y, .int .i64 (f i).m.d, .int .i64 (f i).m.e] 33) (some w2.heap.size)))
          have hbl : w2.heap.size < wr.heap.size := HS.out.lt
          have hs1 : (wr.alloc (.cells #[.int .i64 (f i).c, .int .i64 (f i).m.x, .int .i64 (f i).m.y, .int .i64 (f i).m.d, .int .i64 (f i).m.e] 33)).heap.size = wr.heap.size + 1 := by simp
          clear g0 g1 g2 g3 g4
          generalize wr.alloc (.cells #[.int .i64 (f i).c, .int .i64 (f i).m.x, .int .i64 (f i).m.y, .int .i64 (f i).m.d, .int .i64 (f i).m.e] 33) = wi at *
          generalize wr.heap.size = Bf at *
          go_loopw [28] (fun v wr' => ∃ (k : Nat) (K' : List T) (c' : M → Int), k ≤ lb ∧ v = .int .i64 (k : Int) ∧ rowM K (f i) g k = some K' ∧ Falls K' ∧ (∀ m, m.ok = true → coef K' m = c' m) ∧ SumR wr' w2.heap.size 65536 c' ∧ w2.grownBy wr' (some w2.heap.size) ∧ TermAt wr' Bf (f i)) (fun v _ => lb - (intOf v).toNat)
          case atStart => exact ⟨0, K, c, Nat.zero_le _, rfl, rfl, hKf, hKc, HS1.out, HG1.out, hT1⟩
          case round =>
            obtain ⟨k, K', c', hk, rfl, hM', hKf', hKc', hS', hg', hT'⟩ := hrel
            by_cases hlt2 : k < lb
            · have hkl : (k : Int) < (lb : Int) := by omega
              have hrk := HRB.out.grown hg' HNB.out
              rcases hrk.2.2 with h0 | ⟨pb2, off2, hpe2, hblt2, hcl2⟩
              · omega
              obtain ⟨g0, g1, g2, g3, g4⟩ := hcl2 k hlt2
              obtain ⟨t0, t1, t2, t3, t4⟩ := hT'.cells
              have hgk := polOk_at HPB.out hlt2
              have htl : Bf < wr.heap.size := (Array.getElem?_eq_some_iff.1 hT').1
              have HSk := Hid.mk' (hS'.grown (World.grownBy_alloc wr (.cells #[.int .i64 (g k).c, .int .i64 (g k).m.x, .int .i64 (g k).m.y, .int .i64 (g k).m.d, .int .i64 (g k).m.e] 33) none) (by simp))
              have HGk := Hid.mk' (hg'.trans (World.grownBy_alloc wr (.cells #[.int .i64 (g k).c, .int .i64 (g k).m.x, .int .i64 (g k).m.y, .int .i64 (g k).m.d, .int .i64 (g k).m.e] 33) (some w2.heap.size)))
              have HTk : Hid (TermAt (wr.alloc (.cells #[.int .i64 (g k).c, .int .i64 (g k).m.x, .int .i64 (g k).m.y, .int .i64 (g k).m.d, .int .i64 (g k).m.e] 33)) Bf (f i)) := (Below.heap_alloc _ _ _ htl).trans hT'
              have HMk := Hid.mk' hM'
              have hcr := hS'.range
              clear hcl2 hrk hS' hg' hM' hT'
              subst hpe2
              by_cases hok : ((f i).m.sum (g k).m).ok = true
              · have hTwo : Two (f i) (g k) ((f i).m.sum (g k).m) := Two.of hfi.1 hgk.1 hok hfi.2 hgk.2
                obtain ⟨nf, nc⟩ := addL_pair hTwo hKf' hcr hKc'
                have hcall := addProdI _ w2.heap.size c' HSk.out (f i) (g k) hTwo nf nc
                by_cases h4 : (addL K' (pairL (f i) (g k))).length ≤ 400
                · have hstep : rowM K (f i) g (k + 1) = some (addL K' (pairL (f i) (g k))) := by rw [rowM, HMk.out]; show stepM _ _ _ = _; unfold stepM; rw [if_pos ⟨hok, h4⟩]
                  have HST := Hid.mk' hstep
                  rw [decide_eq_true h4] at hcall
                  clear hstep
                  go_wp2_with (go_at_call 67; refine hcall.mono ?_; rintro r w6 ⟨rfl, hs6, hg6⟩; have HS6 := Hid.mk' hs6; have HG6 := Hid.mk' hg6; clear hs6 hg6)
                  go_roundw
                  case rel => exact ⟨k + 1, _, _, by omega, by go_num, HST.out, nf, nc, HS6.out, HGk.out.trans HG6.out, (HG6.out.block _ (by simp; omega) (fun e => by cases e; omega)).trans HTk.out⟩
                  case measure => simp [intOf]; omega
                · have hstep : rowM K (f i) g (k + 1) = none := by rw [rowM, HMk.out]; show stepM _ _ _ = _; unfold stepM; rw [if_neg (fun h => h4 h.2)]
                  have hno : mulM f g lb la = none := mulM_none (i := i + 1) (by rw [mulM, HM.out]; exact rowM_none hstep lb (by omega)) la (by omega)
                  rw [decide_eq_false h4] at hcall
                  clear hstep
                  go_wp2_with (go_at_call 67; refine hcall.mono ?_; rintro r w6 ⟨rfl, hs6, hg6⟩; have HG6 := Hid.mk' hg6; clear hs6 hg6)
                  refine bodyPost_ret (results_tmp2 rfl _ _ _) rfl ?_
                  rw [hno]
                  exact ⟨_, rfl, HB2.out.grown (HGk.out.trans HG6.out) hlo (fun k' e => by cases e; exact hlo), owns_nil w6 _⟩
              · have hstep : rowM K (f i) g (k + 1) = none := by rw [rowM, HMk.out]; show stepM _ _ _ = _; unfold stepM; rw [if_neg (fun h => hok h.1)]
                have hno : mulM f g lb la = none := mulM_none (i := i + 1) (by rw [mulM, HM.out]; exact rowM_none hstep lb (by omega)) la (by omega)
                have hcall := addProdNo (wr.alloc (.cells #[.int .i64 (g k).c, .int .i64 (g k).m.x, .int .i64 (g k).m.y, .int .i64 (g k).m.d, .int .i64 (g k).m.e] 33)) w2.heap.size (f i) (g k) hfi.1 hgk.1 (by simpa using hok)
                clear hstep
                go_wp2_with (go_at_call 67; refine hcall.mono ?_; rintro r w6 ⟨rfl, hb6⟩; have HG6 := Hid.mk' (below_grown hb6 (some w2.heap.size)); clear hb6)
                refine bodyPost_ret (results_tmp2 rfl _ _ _) rfl ?_
                rw [hno]
                exact ⟨_, rfl, HB2.out.grown (HGk.out.trans HG6.out) hlo (fun k' e => by cases e; exact hlo), owns_nil w6 _⟩
            · obtain rfl : k = lb := by omega
              have HMk : Hid (mulM f g k (i + 1) = some K') := by show _ = _; rw [mulM, HM.out]; exact hM'
              have HSk := Hid.mk' hS'
              have HGk := Hid.mk' hg'
              clear hS' hg' hM' hT'
              go_wp2
              go_roundw
              case rel => exact ⟨i + 1, K', c', by omega, by go_num, HMk.out, hKf', hKc', HSk.out, HGk.out⟩
              case measure => simp [intOf]; omega
        · obtain rfl : i = la := by omega
          have hKl := mulM_len _ _ hM
          have e3 : mulO (mulM f g lb i) = sumL K := by rw [hM]; simp [mulO, sumL, hKl]
          go_wp2_with (go_at_call 68; refine (sumOpI _ _ _ _ hS (by omega) hKf hKc).mono ?_; rintro r w5 ⟨v, rfl, hb5, ho5⟩)
          refine bodyPost_ret (results_tmp2 rfl _ _ _) rfl ?_
          rw [e3]
          have hB4 : Below w.heap.size w wr := HB2.out.grown hg hlo (fun k' e => by cases e; exact hlo)
          exact ⟨_, rfl, hB4.trans (hb5.mono hB4.size), ownsRow_low ho5 hB4.size⟩
theorem wylMulI (w : World) (a b : Option Addr) (la ca lb cb : Nat) (f g : Nat → T) (ha : Rd w a la ca f) (hb : Rd w b lb cb g) :
    Calls Try.prog 29 #[.slice a la ca, .slice b lb cb] w fun r w' => ∃ a' cap', r = .returned (.tuple #[.slice a' (wylMul f la g lb).1.length cap', .bool (wylMul f la g lb).2]) ∧ Below w.heap.size w w' ∧ Out w.heap.size w' a' cap' (wylMul f la g lb).1 := by
  refine (wylMulV w a b la ca lb cb f g ha hb).mono ?_
  rintro r w' ⟨v, rfl, hb1, ho1⟩
  have hlen := wylMul_len f la g lb
  obtain ⟨a', cap', rfl, hout⟩ := out_of_owns ho1 (by omega)
  exact ⟨a', cap', rfl, hb1, hout⟩
end Go.Proofs.Ytbkighpmkadmmaa
