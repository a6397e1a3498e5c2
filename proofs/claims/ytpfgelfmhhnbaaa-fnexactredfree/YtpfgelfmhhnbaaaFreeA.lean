/-
  The first of some terms that is wanted, and whether there is one: the program.
-/
import Derived.Test.YtpfgelfmhhnbaaaFreeS
import Derived.Shelf.Abstract
namespace Go.Proofs.Ytpfgelfmhhnbaaa
open Go.RowKit Go.Deep Go.Joins
set_option linter.unusedVariables false

/-- the place of the first of the first terms that is wanted; -1, if there is none. -/
def idxF (p : T → Bool) (f : Nat → T) : Nat → Int
  | 0 => -1
  | n + 1 => if 0 ≤ idxF p f n then idxF p f n else if p (f n) = true then (n : Int) else -1
theorem idx_none {p : T → Bool} {f : Nat → T} : ∀ {k : Nat}, (∀ j, j < k → p (f j) = false) → idxF p f k = -1
  | 0, _ => rfl
  | k + 1, h => by
    have h1 := idx_none (p := p) (f := f) (k := k) (fun j hj => h j (by omega))
    unfold idxF
    rw [h1, if_neg (by omega), if_neg (by rw [h k (by omega)]; decide)]
theorem idx_hit {p : T → Bool} {f : Nat → T} {k : Nat} (h : ∀ j, j < k → p (f j) = false) (hk : p (f k) = true) : ∀ n, k < n → idxF p f n = (k : Int)
  | 0, h0 => by omega
  | n + 1, h0 => by
    by_cases e : k = n
    · subst e
      unfold idxF
      rw [idx_none h, if_neg (by omega), if_pos hk]
    · have h1 := idx_hit h hk n (by omega)
      unfold idxF
      rw [h1, if_pos (by omega)]
theorem idx_iff {p : T → Bool} {f : Nat → T} : ∀ {n : Nat}, 0 ≤ idxF p f n ↔ ∃ i, i < n ∧ p (f i) = true
  | 0 => ⟨fun h => absurd (show (0 : Int) ≤ -1 from h) (by decide), fun ⟨_, h, _⟩ => by omega⟩
  | n + 1 => by
    have ih := idx_iff (p := p) (f := f) (n := n)
    unfold idxF
    by_cases h : 0 ≤ idxF p f n
    · rw [if_pos h]
      exact ⟨fun _ => by obtain ⟨i, hi, hp⟩ := ih.1 h; exact ⟨i, by omega, hp⟩, fun _ => h⟩
    · rw [if_neg h]
      by_cases hp : p (f n) = true
      · rw [if_pos hp]
        exact ⟨fun _ => ⟨n, by omega, hp⟩, fun _ => by omega⟩
      · rw [if_neg hp]
        refine ⟨fun hh => absurd hh (by decide), fun ⟨i, hi, hpi⟩ => ?_⟩
        by_cases e : i = n
        · subst e; exact absurd hpi hp
        · exact absurd (ih.2 ⟨i, by omega, hpi⟩) h
/-- a function that says which of the terms are wanted, wherever Q is. -/
def WantsK (g : Nat) (lb : Array Value) (p : T → Bool) (Q : World → Prop) (f : Nat → T) (n : Nat) : Prop :=
  ∀ (k : Nat) (W : World), k < n → Q W → Calls Try.prog g (#[.agg #[.int .i64 (f k).c, .int .i64 (f k).m.x, .int .i64 (f k).m.y, .int .i64 (f k).m.d, .int .i64 (f k).m.e]] ++ lb) W fun r w' => r = .returned (.bool (p (f k))) ∧ Below W.heap.size W w'
set_option maxRecDepth 100000 in
set_option maxHeartbeats 8000000 in
theorem idxI (w : World) (a : Option Addr) (n cap : Nat) (f : Nat → T) (g : Nat) (lb : Array Value) (p : T → Bool) (Q : World → Prop) (eg : ∀ args w, (callFunc g args).run Try.prog w = .ok (.enter g args) w) (hW : WantsK g lb p Q f n) (hQ : ∀ W', Below w.heap.size w W' → Q W') (h : Rd w a n cap f) :
    Calls Try.prog 61 #[.slice a n cap, .func (.func g) #[] lb] w fun r w' => r = .returned (.int .i64 (idxF p f n)) ∧ Below w.heap.size w w' := by
  have HA := Hid.mk' h
  have HW := Hid.mk' hW
  have HQ := Hid.mk' hQ
  have hn : (n : Int) ≤ 140737488351232 := by have := h.2.1; omega
  clear h hW hQ
  go_enter Try.func61, Try.ntmps61
  go_wp2
  go_loopw [8] (fun v wr => ∃ k : Nat, k ≤ n ∧ v = .int .i64 (k : Int) ∧ Below w.heap.size w wr ∧ ∀ j, j < k → p (f j) = false) (fun v _ => n - (intOf v).toNat)
  case atStart => exact ⟨0, Nat.zero_le _, rfl, Below.refl _ _, fun j hj => by omega⟩
  case round =>
    obtain ⟨k, hk, rfl, hB, hJ⟩ := hrel
    have HJ := Hid.mk' hJ
    have HB := Hid.mk' hB
    clear hJ
    by_cases hlt : k < n
    · have hkn : (k : Int) < (n : Int) := by omega
      have hri := HA.out.below hB
      rcases hri.2.2 with h0 | ⟨b, off, hpe, hblt, hcl⟩
      · omega
      obtain ⟨g0, g1, g2, g3, g4⟩ := hcl k hlt
      have HCALL := Hid.mk' (HW.out k wr hlt (HQ.out _ hB))
      clear hcl hri hB
      subst hpe
      cases hpk : p (f k)
      · have HP := Hid.mk' hpk
        go_wp2_with fail
        refine HCALL.out.mono ?_
        rw [hpk]
        rintro r w4 ⟨rfl, hb4⟩
        have HB4 := Hid.mk' (bel_next HB.out hb4)
        clear hb4 g0 g1 g2 g3 g4 hpk
        go_wp2
        go_roundw
        case rel => exact ⟨k + 1, by omega, by go_num, HB4.out, fun j hj => by
          by_cases e : j = k
          · rw [e]; exact HP.out
          · exact HJ.out j (by omega)⟩
        case measure => simp [intOf]; omega
      · have HE : Hid (idxF p f n = (k : Int)) := idx_hit HJ.out hpk n hlt
        go_wp2_with fail
        refine HCALL.out.mono ?_
        rw [hpk]
        rintro r w4 ⟨rfl, hb4⟩
        have HB4 := Hid.mk' (bel_next HB.out hb4)
        clear hb4 g0 g1 g2 g3 g4 hpk
        go_wp2
        go_ret
        exact ⟨congrArg (fun z => Ending.returned (Value.int IntKind.i64 z)) HE.out.symm, HB4.out⟩
    · have hnl : ¬ (k : Int) < (n : Int) := by omega
      have hie : k = n := by omega
      subst hie
      have HE : Hid (idxF p f k = -1) := idx_none HJ.out
      go_wp2
      go_ret
      exact ⟨congrArg (fun z => Ending.returned (Value.int IntKind.i64 z)) HE.out.symm, HB.out⟩
set_option maxRecDepth 100000 in
set_option maxHeartbeats 4000000 in
theorem hasI (w : World) (a : Option Addr) (n cap : Nat) (f : Nat → T) (g : Nat) (lb : Array Value) (p : T → Bool) (Q : World → Prop) (eg : ∀ args w, (callFunc g args).run Try.prog w = .ok (.enter g args) w) (hW : WantsK g lb p Q f n) (hQ : ∀ W', Below w.heap.size w W' → Q W') (h : Rd w a n cap f) :
    Calls Try.prog 36 #[.slice a n cap, .func (.func g) #[] lb] w fun r w' => r = .returned (.bool (decide (0 ≤ idxF p f n))) ∧ Below w.heap.size w w' := by
  have HI := Hid.mk' (idxI w a n cap f g lb p Q eg hW hQ h)
  clear hW hQ h
  obtain ⟨z, hz⟩ : ∃ z, idxF p f n = z := ⟨_, rfl⟩
  rw [hz]
  by_cases h0 : 0 ≤ z
  · rw [decide_eq_true h0]
    go_enter Try.func36, Try.ntmps36
    go_wp2_with fail
    refine HI.out.mono ?_
    rw [hz]
    rintro r w1 ⟨rfl, hb⟩
    have HB := Hid.mk' hb
    clear hb HI hz
    go_wp2
    go_ret
    exact ⟨rfl, HB.out⟩
  · rw [decide_eq_false h0]
    go_enter Try.func36, Try.ntmps36
    go_wp2_with fail
    refine HI.out.mono ?_
    rw [hz]
    rintro r w1 ⟨rfl, hb⟩
    have HB := Hid.mk' hb
    clear hb HI hz
    go_wp2
    go_ret
    exact ⟨congrArg (fun z => Ending.returned (Value.bool z)) (decide_eq_false (by omega)), HB.out⟩
set_option maxHeartbeats 2000000 in
theorem first1 (t : T) (m : M) (B : Nat) (W : World) (h : M4 W B m.x m.y m.d m.e) :
    Calls Try.prog 62 #[.agg #[.int .i64 t.c, .int .i64 t.m.x, .int .i64 t.m.y, .int .i64 t.m.d, .int .i64 t.m.e], .pointer (some ⟨B, 0, none⟩)] W fun r w' => r = .returned (.bool (M.dvd t.m m)) ∧ Below W.heap.size W w' := by
  obtain ⟨bv, hbv⟩ : ∃ bv, M.dvd ⟨t.m.x, t.m.y, t.m.d, t.m.e⟩ ⟨m.x, m.y, m.d, m.e⟩ = bv := ⟨_, rfl⟩
  rw [show M.dvd t.m m = bv from hbv]
  have HD := Hid.mk' hbv
  have B1w := Hid.mk' (bel_one W (.cells #[.int .i64 t.c, .int .i64 t.m.x, .int .i64 t.m.y, .int .i64 t.m.d, .int .i64 t.m.e] 55))
  have hlt := h.lt
  obtain ⟨c1, c2, c3, c4⟩ := h
  clear hbv
  go_enter Try.func62, Try.ntmps62
  go_wp2_with fail
  refine (monDividesI_of HD.out _).mono ?_
  rintro r w1 ⟨rfl, hb⟩
  have HB := Hid.mk' (bel_next B1w.out hb)
  clear hb c1 c2 c3 c4
  go_wp2
  go_ret
  exact ⟨rfl, HB.out⟩
set_option maxRecDepth 100000 in
set_option maxHeartbeats 4000000 in
theorem redFirstI (w : World) (a : Option Addr) (n cap : Nat) (f : Nat → T) (m : M) (h : Rd w a n cap f) :
    Calls Try.prog 38 #[.slice a n cap, .agg #[.int .i64 m.x, .int .i64 m.y, .int .i64 m.d, .int .i64 m.e]] w fun r w' => r = .returned (.int .i64 (idxF (fun t => M.dvd t.m m) f n)) ∧ Below w.heap.size w w' := by
  have HI := Hid.mk' (idxI (w.alloc (.cells #[.int .i64 m.x, .int .i64 m.y, .int .i64 m.d, .int .i64 m.e] 53)) a n cap f 62 #[.pointer (some ⟨w.heap.size, 0, none⟩)] (fun t => M.dvd t.m m) (fun W => M4 W w.heap.size m.x m.y m.d m.e) (enters_of Try.func62 (by kernel_rfl) rfl) (fun k W hk hQ => first1 (f k) m _ W hQ) (fun W' hb => (M4.box w 53 m.x m.y m.d m.e).below hb) (h.below (bel_one w _)))
  have HB0 := Hid.mk' (bel_one w (.cells #[.int .i64 m.x, .int .i64 m.y, .int .i64 m.d, .int .i64 m.e] 53))
  clear h
  go_enter Try.func38, Try.ntmps38
  go_wp2_with fail
  refine HI.out.mono ?_
  rintro r w1 ⟨rfl, hb⟩
  have HB := Hid.mk' (bel_next HB0.out hb)
  clear hb HI HB0
  go_wp2
  go_ret
  exact ⟨rfl, HB.out⟩
set_option maxHeartbeats 4000000 in
theorem free1 (t : T) (a : Option Addr) (n cap : Nat) (f : Nat → T) (B : Nat) (W : World) (h : Rd W a n cap f) (hc : W.cell? ⟨B, 0, none⟩ = some (.slice a n cap)) :
    Calls Try.prog 37 #[.agg #[.int .i64 t.c, .int .i64 t.m.x, .int .i64 t.m.y, .int .i64 t.m.d, .int .i64 t.m.e], .pointer (some ⟨B, 0, none⟩)] W fun r w' => r = .returned (.bool (decide (0 ≤ idxF (fun s => M.dvd s.m t.m) f n))) ∧ Below W.heap.size W w' := by
  have l1 := World.block_lt_of_cell? W _ hc
  have B1w := Hid.mk' (bel_one W (.cells #[.int .i64 t.c, .int .i64 t.m.x, .int .i64 t.m.y, .int .i64 t.m.d, .int .i64 t.m.e] 55))
  obtain ⟨z, hz⟩ : ∃ z, idxF (fun s => M.dvd s.m t.m) f n = z := ⟨_, rfl⟩
  rw [hz]
  have hcall : Calls Try.prog 38 #[.slice a n cap, .agg #[.int .i64 t.m.x, .int .i64 t.m.y, .int .i64 t.m.d, .int .i64 t.m.e]] (W.alloc (.cells #[.int .i64 t.c, .int .i64 t.m.x, .int .i64 t.m.y, .int .i64 t.m.d, .int .i64 t.m.e] 55)) fun r w' => r = .returned (.int .i64 z) ∧ Below (W.alloc (.cells #[.int .i64 t.c, .int .i64 t.m.x, .int .i64 t.m.y, .int .i64 t.m.d, .int .i64 t.m.e] 55)).heap.size (W.alloc (.cells #[.int .i64 t.c, .int .i64 t.m.x, .int .i64 t.m.y, .int .i64 t.m.d, .int .i64 t.m.e] 55)) w' := by
    rw [← hz]
    exact redFirstI _ a n cap f t.m (h.below B1w.out)
  have HC := Hid.mk' hcall
  clear h hz hcall
  by_cases h0 : 0 ≤ z
  · rw [decide_eq_true h0]
    go_enter Try.func37, Try.ntmps37
    go_wp2_with fail
    refine HC.out.mono ?_
    rintro r w1 ⟨rfl, hb⟩
    have HB := Hid.mk' (bel_next B1w.out hb)
    clear hb hc HC
    go_wp2
    go_ret
    exact ⟨rfl, HB.out⟩
  · rw [decide_eq_false h0]
    go_enter Try.func37, Try.ntmps37
    go_wp2_with fail
    refine HC.out.mono ?_
    rintro r w1 ⟨rfl, hb⟩
    have HB := Hid.mk' (bel_next B1w.out hb)
    clear hb hc HC
    go_wp2
    go_ret
    exact ⟨congrArg (fun z => Ending.returned (Value.bool z)) (decide_eq_false (by omega)), HB.out⟩
end Go.Proofs.Ytpfgelfmhhnbaaa
