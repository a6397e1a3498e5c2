/-
  The first of some terms that is wanted, and whether there is one: the program.
  The greatest terms of a list of operators: the program.
  The two terms of a pair of operators: the program and the model.
-/
import Derived.Test.YtdidlcjhodejjaaGreatSbb
import Derived.Shelf.Abstract
import Derived.Test.YtdidlcjhodejjaaGreatSaz
import Derived.Deep.RegionHeld3
import Derived.Deep.Light
namespace Go.Proofs.YtdidlcjhodejjaaGreat
open Go.RowKit Go.Deep Go.Joins
set_option linter.unusedVariables false

/-- the place of the first of the first terms that is wanted; -1, if there is none. -/
def idxF (p : T → Bool) (f : Nat → T) : Nat → Int
  | 0 => -1
  | n + 1 => if 0 ≤ idxF p f n then idxF p f n else if p (f n) = true then (n : Int) else -1
theorem idx_none {p : T → Bool} {f : Nat → T} : ∀ {k : Nat}, (∀ j, j < k → p (f j) = false) → idxF p f k = -1
  | 0, _ => rfl
  | k + 1, h => by
    have h1 := idx_none (p := p) (f := f) (k := k) (fun j hj => h j (by omega))
    unfold idxF
    rw [h1, if_neg (by omega), if_neg (by rw [h k (by omega)]; decide)]
theorem idx_hit {p : T → Bool} {f : Nat → T} {k : Nat} (h : ∀ j, j < k → p (f j) = false) (hk : p (f k) = true) : ∀ n, k < n → idxF p f n = (k : Int)
  | 0, h0 => by omega
  | n + 1, h0 => by
    by_cases e : k = n
    · subst e
      unfold idxF
      rw [idx_none h, if_neg (by omega), if_pos hk]
    · have h1 := idx_hit h hk n (by omega)
      unfold idxF
      rw [h1, if_pos (by omega)]
theorem idx_iff {p : T → Bool} {f : Nat → T} : ∀ {n : Nat}, 0 ≤ idxF p f n ↔ ∃ i, i < n ∧ p (f i) = true
  | 0 => ⟨fun h => absurd (show (0 : Int) ≤ -1 from h) (by decide), fun ⟨_, h, _⟩ => by omega⟩
  | n + 1 => by
    have ih := idx_iff (p := p) (f := f) (n := n)
    unfold idxF
    by_cases h : 0 ≤ idxF p f n
    · rw [if_pos h]
      exact ⟨fun _ => by obtain ⟨i, hi, hp⟩ := ih.1 h; exact ⟨i, by omega, hp⟩, fun _ => h⟩
    · rw [if_neg h]
      by_cases hp : p (f n) = true
      · rw [if_pos hp]
        exact ⟨fun _ => ⟨n, by omega, hp⟩, fun _ => by omega⟩
      · rw [if_neg hp]
        refine ⟨fun hh => absurd hh (by decide), fun ⟨i, hi, hpi⟩ => ?_⟩
        by_cases e : i = n
        · subst e; exact absurd hpi hp
        · exact absurd (ih.2 ⟨i, by omega, hpi⟩) h
/-- a function that says which of the terms are wanted, wherever Q is. -/
def WantsK (g : Nat) (lb : Array Value) (p : T → Bool) (Q : World → Prop) (f : Nat → T) (n : Nat) : Prop :=
  ∀ (k : Nat) (W : World), k < n → Q W → Calls Tryz.prog g (#[.agg #[.int .i64 (f k).c, .int .i64 (f k).m.x, .int .i64 (f k).m.y, .int .i64 (f k).m.d, .int .i64 (f k).m.e]] ++ lb) W fun r w' => r = .returned (.bool (p (f k))) ∧ Below W.heap.size W w'
set_option maxRecDepth 100000 in
set_option maxHeartbeats 8000000 in
theorem idxI (w : World) (a : Option Addr) (n cap : Nat) (f : Nat → T) (g : Nat) (lb : Array Value) (p : T → Bool) (Q : World → Prop) (eg : ∀ args w, (callFunc g args).run Tryz.prog w = .ok (.enter g args) w) (hW : WantsK g lb p Q f n) (hQ : ∀ W', Below w.heap.size w W' → Q W') (h : Rd w a n cap f) :
    Calls Tryz.prog 118 #[.slice a n cap, .func (.func g) #[] lb] w fun r w' => r = .returned (.int .i64 (idxF p f n)) ∧ Below w.heap.size w w' := by
  have HA := Hid.mk' h
  have HW := Hid.mk' hW
  have HQ := Hid.mk' hQ
  have hn : (n : Int) ≤ 140737488351232 := by have := h.2.1; omega
  clear h hW hQ
  go_enter Tryz.func118, Tryz.ntmps118
  go_wp2
  go_loopw [8] (fun v wr => ∃ k : Nat, k ≤ n ∧ v = .int .i64 (k : Int) ∧ Below w.heap.size w wr ∧ ∀ j, j < k → p (f j) = false) (fun v _ => n - (intOf v).toNat)
  case atStart => exact ⟨0, Nat.zero_le _, rfl, Below.refl _ _, fun j hj => by omega⟩
  case round =>
    obtain ⟨k, hk, rfl, hB, hJ⟩ := hrel
    have HJ := Hid.mk' hJ
    have HB := Hid.mk' hB
    clear hJ
    by_cases hlt : k < n
    · have hkn : (k : Int) < (n : Int) := by omega
      have hri := HA.out.below hB
      rcases hri.2.2 with h0 | ⟨b, off, hpe, hblt, hcl⟩
      · omega
      obtain ⟨g0, g1, g2, g3, g4⟩ := hcl k hlt
      have HCALL := Hid.mk' (HW.out k wr hlt (HQ.out _ hB))
      clear hcl hri hB
      subst hpe
      cases hpk : p (f k)
      · have HP := Hid.mk' hpk
        go_wp2_with fail
        refine HCALL.out.mono ?_
        rw [hpk]
        rintro r w4 ⟨rfl, hb4⟩
        have HB4 := Hid.mk' (bel_next HB.out hb4)
        clear hb4 g0 g1 g2 g3 g4 hpk
        go_wp2
        go_roundw
        case rel => exact ⟨k + 1, by omega, by go_num, HB4.out, fun j hj => by
          by_cases e : j = k
          · rw [e]; exact HP.out
          · exact HJ.out j (by omega)⟩
        case measure => simp [intOf]; omega
      · have HE : Hid (idxF p f n = (k : Int)) := idx_hit HJ.out hpk n hlt
        go_wp2_with fail
        refine HCALL.out.mono ?_
        rw [hpk]
        rintro r w4 ⟨rfl, hb4⟩
        have HB4 := Hid.mk' (bel_next HB.out hb4)
        clear hb4 g0 g1 g2 g3 g4 hpk
        go_wp2
        go_ret
        exact ⟨congrArg (fun z => Ending.returned (Value.int IntKind.i64 z)) HE.out.symm, HB4.out⟩
    · have hnl : ¬ (k : Int) < (n : Int) := by omega
      have hie : k = n := by omega
      subst hie
      have HE : Hid (idxF p f k = -1) := idx_none HJ.out
      go_wp2
      go_ret
      exact ⟨congrArg (fun z => Ending.returned (Value.int IntKind.i64 z)) HE.out.symm, HB.out⟩
set_option maxHeartbeats 2000000 in
theorem first1 (t : T) (m : M) (B : Nat) (W : World) (h : M4 W B m.x m.y m.d m.e) :
    Calls Tryz.prog 119 #[.agg #[.int .i64 t.c, .int .i64 t.m.x, .int .i64 t.m.y, .int .i64 t.m.d, .int .i64 t.m.e], .pointer (some ⟨B, 0, none⟩)] W fun r w' => r = .returned (.bool (M.dvd t.m m)) ∧ Below W.heap.size W w' := by
  obtain ⟨bv, hbv⟩ : ∃ bv, M.dvd ⟨t.m.x, t.m.y, t.m.d, t.m.e⟩ ⟨m.x, m.y, m.d, m.e⟩ = bv := ⟨_, rfl⟩
  rw [show M.dvd t.m m = bv from hbv]
  have HD := Hid.mk' hbv
  have B1w := Hid.mk' (bel_one W (.cells #[.int .i64 t.c, .int .i64 t.m.x, .int .i64 t.m.y, .int .i64 t.m.d, .int .i64 t.m.e] 42))
  have hlt := h.lt
  obtain ⟨c1, c2, c3, c4⟩ := h
  clear hbv
  go_enter Tryz.func119, Tryz.ntmps119
  go_wp2_with fail
  refine (monDividesI_of HD.out _).mono ?_
  rintro r w1 ⟨rfl, hb⟩
  have HB := Hid.mk' (bel_next B1w.out hb)
  clear hb c1 c2 c3 c4
  go_wp2
  go_ret
  exact ⟨rfl, HB.out⟩
set_option maxRecDepth 100000 in
set_option maxHeartbeats 4000000 in
theorem redFirstI (w : World) (a : Option Addr) (n cap : Nat) (f : Nat → T) (m : M) (h : Rd w a n cap f) :
    Calls Tryz.prog 75 #[.slice a n cap, .agg #[.int .i64 m.x, .int .i64 m.y, .int .i64 m.d, .int .i64 m.e]] w fun r w' => r = .returned (.int .i64 (idxF (fun t => M.dvd t.m m) f n)) ∧ Below w.heap.size w w' := by
  have HI := Hid.mk' (idxI (w.alloc (.cells #[.int .i64 m.x, .int .i64 m.y, .int .i64 m.d, .int .i64 m.e] 40)) a n cap f 119 #[.pointer (some ⟨w.heap.size, 0, none⟩)] (fun t => M.dvd t.m m) (fun W => M4 W w.heap.size m.x m.y m.d m.e) (enters_of Tryz.func119 (by kernel_rfl) rfl) (fun k W hk hQ => first1 (f k) m _ W hQ) (fun W' hb => (M4.box w 40 m.x m.y m.d m.e).below hb) (h.below (bel_one w _)))
  have HB0 := Hid.mk' (bel_one w (.cells #[.int .i64 m.x, .int .i64 m.y, .int .i64 m.d, .int .i64 m.e] 40))
  clear h
  go_enter Tryz.func75, Tryz.ntmps75
  go_wp2_with fail
  refine HI.out.mono ?_
  rintro r w1 ⟨rfl, hb⟩
  have HB := Hid.mk' (bel_next HB0.out hb)
  clear hb HI HB0
  go_wp2
  go_ret
  exact ⟨rfl, HB.out⟩
end Go.Proofs.YtdidlcjhodejjaaGreat
namespace Go.Proofs.YtdidlcjhodejjaaGreat
open Go.RowKit Go.Deep Go.Joins
set_option linter.unusedVariables false

/-- the greatest terms of the first operators. -/
def ldsL (o : Int) (ln : Nat → Nat) (f : Nat → Nat → T) : Nat → List T
  | 0 => []
  | i + 1 => ldsL o ln f i ++ [ldAt o ln f i]
theorem ldsL_len (o : Int) (ln : Nat → Nat) (f : Nat → Nat → T) : ∀ i, (ldsL o ln f i).length = i
  | 0 => rfl
  | i + 1 => by unfold ldsL; rw [List.length_append, ldsL_len o ln f i]; rfl
theorem ldsL_at (o : Int) (ln : Nat → Nat) (f : Nat → Nat → T) : ∀ n i, i < n → lf (ldsL o ln f n) i = ldAt o ln f i
  | 0, i, h => by omega
  | n + 1, i, h => by
    have hl := ldsL_len o ln f n
    unfold ldsL lf
    by_cases e : i = n
    · subst e
      rw [List.getD_eq_getElem?_getD, List.getElem?_append_right (by omega), hl]
      simp
    · have := ldsL_at o ln f n i (by omega)
      unfold lf at this
      rw [List.getD_eq_getElem?_getD] at this ⊢
      rw [List.getElem?_append_left (by omega)]
      exact this
set_option maxRecDepth 100000 in
set_option maxHeartbeats 4000000 in
theorem redLeadsI_out (w : World) (o : Int) (a : Option Addr) (n cap : Nat) (ho : o < 1 ∨ 3 < o) :
    Calls Tryz.prog 45 #[.int .i64 o, .slice a n cap] w fun r w' => r = .returned (.tuple #[.slice none 0 0, .bool false]) ∧ Below w.heap.size w w' := by
  go_enter Tryz.func45, Tryz.ntmps45
  go_wp2_with fail
  refine (ordRankI_out _ _ ho).mono ?_
  rintro r w1 ⟨rfl, hb1⟩
  have HB := Hid.mk' hb1
  clear hb1
  go_wp2
  refine bodyPost_ret (v := .tuple #[.slice none 0 0, .bool false]) (by simp [results, Tryz.results45, go_sem, *]) rfl ⟨rfl, HB.out⟩
set_option maxRecDepth 100000 in
set_option maxHeartbeats 4000000 in
theorem redLeadsI_no (w : World) (o : Int) (a : Option Addr) (n cap : Nat) (ad : Nat → Option Addr) (ln cp : Nat → Nat) (f : Nat → Nat → T) (h : RdS w a n cap ad ln cp f) (o1 : 1 ≤ o) (o2 : o ≤ 3) (hls : lstOk n ln f = false) :
    Calls Tryz.prog 45 #[.int .i64 o, .slice a n cap] w fun r w' => r = .returned (.tuple #[.slice none 0 0, .bool false]) ∧ Below w.heap.size w w' := by
  have HH := Hid.mk' h
  clear h
  go_enter Tryz.func45, Tryz.ntmps45
  go_wp2_with fail
  refine (ordRankI_in _ _ o1 o2).mono ?_
  rintro r w1 ⟨fv, rfl, hb1⟩
  have HB := Hid.mk' hb1
  have HR := Hid.mk' (HH.out.below hb1)
  clear hb1
  go_wp2_with fail
  refine (lstOkI _ _ _ _ _ _ _ _ HR.out).mono ?_
  rw [hls]
  rintro r w2 ⟨rfl, hb2⟩
  have HB2 := Hid.mk' (bel_next HB.out hb2)
  clear hb2
  go_wp2
  refine bodyPost_ret (v := .tuple #[.slice none 0 0, .bool false]) (by simp [results, Tryz.results45, go_sem, *]) rfl ⟨rfl, HB2.out⟩
set_option maxRecDepth 100000 in
set_option maxHeartbeats 8000000 in
theorem redLeadsI (w : World) (o : Int) (a : Option Addr) (n cap : Nat) (ad : Nat → Option Addr) (ln cp : Nat → Nat) (f : Nat → Nat → T) (h : RdS w a n cap ad ln cp f) (o1 : 1 ≤ o) (o2 : o ≤ 3) (hls : lstOk n ln f = true) :
    Calls Tryz.prog 45 #[.int .i64 o, .slice a n cap] w fun r w' => ∃ v, r = .returned (.tuple #[v, .bool true]) ∧ Below w.heap.size w w' ∧ w'.ownsRow w.heap.size 42 5 v (ldsL o ln f n).length (cellsL (ldsL o ln f n)) := by
  obtain ⟨i0, hi0, hz0, hz1, hz2⟩ := info_parts infoT
  have HH := Hid.mk' h
  have hall := lstOk_all hls
  have HO := Hid.mk' hall.2
  have hn : (n : Int) ≤ 12 := by have := hall.1; omega
  clear h hall
  go_enter Tryz.func45, Tryz.ntmps45
  go_wp2_with fail
  refine (ordRankI_in _ _ o1 o2).mono ?_
  rintro r w1 ⟨fv, rfl, hb1⟩
  have HB := Hid.mk' hb1
  have HR := Hid.mk' (HH.out.below hb1)
  clear hb1
  go_wp2_with fail
  refine (lstOkI _ _ _ _ _ _ _ _ HR.out).mono ?_
  rw [hls]
  rintro r w2 ⟨rfl, hb2⟩
  have HB2 := Hid.mk' (bel_next HB.out hb2)
  clear hb2 HB HR hls
  go_wp2
  go_loopw [8, 27] (fun v i wr => ∃ k : Nat, k ≤ n ∧ i = .int .i64 (k : Int) ∧ Below w.heap.size w wr ∧ wr.ownsRow w.heap.size 42 5 v (ldsL o ln f k).length (cellsL (ldsL o ln f k))) (fun _ i _ => n - (intOf i).toNat)
  case atStart => exact ⟨0, Nat.zero_le _, rfl, HB2.out, ownsT_nil w2 _⟩
  case round =>
    obtain ⟨k, hk, rfl, hB, hown⟩ := hrel
    have HB3 := Hid.mk' hB
    have HO3 := Hid.mk' hown
    clear hown
    by_cases hlt : k < n
    · rcases HH.out.2.2.1 with h0 | ⟨b, off, rfl, hblt, hcl⟩
      · omega
      have hkl : (k : Int) < (n : Int) := by omega
      have g0 : wr.cell? ⟨b, off + k, none⟩ = some (.slice (ad k) (ln k) (cp k)) := (hB.cell (p := ⟨b, off + k, none⟩) hblt).trans (hcl k hlt)
      have HK := Hid.mk' ((HH.out.2.2.2 k hlt).below hB)
      have hwl := ldsL_len o ln f k
      obtain ⟨t, ht⟩ : ∃ t, ldAt o ln f k = t := ⟨_, rfl⟩
      have HT := Hid.mk' ht
      have hok := HO.out k hlt
      have hlo : leadOk o (ln k) (f k) = true := by
        unfold leadOk
        rw [hok.2, decide_eq_true (show 1 ≤ o ∧ o ≤ 3 from ⟨o1, o2⟩), decide_eq_true (show 0 < ln k by omega)]
        rfl
      have hlt' : leadT o (ln k) (f k) = t := (leadT_yes hlo).trans ht
      have HC := Hid.mk' (polLeadI wr o (ad k) (ln k) (cp k) (f k) HK.out)
      clear hcl hB hok ht
      go_wp2_with fail
      refine HC.out.mono ?_
      rw [hlt', hlo]
      rintro r w4 ⟨rfl, hb4⟩
      have hB4 := bel_next HB3.out hb4
      have hO4 := owns_below HO3.out hb4
      clear hb4 g0 hlt' hlo HC HK
      have e2 : ldsL o ln f (k + 1) = ldsL o ln f k ++ [t] := by
        rw [← HT.out]; rfl
      have HE := Hid.mk' e2
      have HL := Hid.mk' hwl
      have hB5 := hB4.alloc hB4.size (.cells #[.int .i64 t.c, .int .i64 t.m.x, .int .i64 t.m.y, .int .i64 t.m.d, .int .i64 t.m.e] 42)
      have hO5 := hO4.alloc (.cells #[.int .i64 t.c, .int .i64 t.m.x, .int .i64 t.m.y, .int .i64 t.m.d, .int .i64 t.m.e] 42)
      have hnew : ((w4.alloc (.cells #[.int .i64 t.c, .int .i64 t.m.x, .int .i64 t.m.y, .int .i64 t.m.d, .int .i64 t.m.e] 42)).alloc (.cells #[.int .i64 t.c, .int .i64 t.m.x, .int .i64 t.m.y, .int .i64 t.m.d, .int .i64 t.m.e] 42)).heap[w4.heap.size + 1]? = some (.cells #[.int .i64 t.c, .int .i64 t.m.x, .int .i64 t.m.y, .int .i64 t.m.d, .int .i64 t.m.e] 42) := by
        have := heap_alloc_new (w4.alloc (.cells #[.int .i64 t.c, .int .i64 t.m.x, .int .i64 t.m.y, .int .i64 t.m.d, .int .i64 t.m.e] 42)) (.cells #[.int .i64 t.c, .int .i64 t.m.x, .int .i64 t.m.y, .int .i64 t.m.d, .int .i64 t.m.e] 42)
        rw [World.size_alloc] at this
        exact this
      have HN := Hid.mk' hnew
      clear e2 HT hnew
      go_wp2_with (at_builtin; refine wpList_append_lies _ rfl (.tmp 37) (.tmp 39) 45 rfl w.heap.size 42 i0 _ 5 40 Tryz.underlying45 hi0 hz0 hz1 hz2 rfl (by omega) _ (ldsL o ln f k).length (cellsL (ldsL o ln f k)) rfl (hO5.alloc _) ⟨w4.heap.size + 1, 0, none⟩ 1 1 (cellsL [t]) rfl (by rw [cellsL_length]; rfl) (by rw [cellsL_one]; exact World.news_of_block HN.out) (one_cells _) (by omega) (by unfold maxLen; omega) (by omega) (by have := hB4.size; simp; omega) _ rfl ?_; intro g0 cap0 w5 hown1 hgrow hat hlt1; have HB := Hid.mk' ((hB5.alloc hB5.size _).grown hgrow (Nat.le_trans hB4.size (by simp; omega)) (fun k hk => (hO4.lt k hk).1)); have HO1 := Hid.mk' hown1; clear hown1 hgrow hat hlt1 hO4 hO5)
      go_roundw
      case rel => exact ⟨k + 1, by omega, by go_num, HB.out, by
        have h := HO1.out
        rw [HE.out, cellsL_append, List.length_append]
        rw [HL.out] at h ⊢
        exact h⟩
      case measure => simp [intOf]; omega
    · have hnl : ¬ (k : Int) < (n : Int) := by omega
      have hie : k = n := by omega
      subst hie
      go_wp2
      refine bodyPost_ret (v := .tuple #[u8, .bool true]) (by simp [results, Tryz.results45, go_sem, *]) rfl ⟨_, rfl, HB3.out, HO3.out⟩
end Go.Proofs.YtdidlcjhodejjaaGreat
namespace Go.Proofs.YtdidlcjhodejjaaGreat
open Go.RowKit Go.Deep Go.Joins
set_option linter.unusedVariables false

/-- the term that, times a greatest term, is 1 times a monomial. -/
def sprT (l : T) (b : M) : T := ⟨fInv l.c, (M.over b l.m).1⟩
def sprOk (o : Int) (n : Nat) (f : Nat → T) (m : Nat) (g : Nat → T) : Bool := leadOk o n f && leadOk o m g
def sprB (o : Int) (n : Nat) (f : Nat → T) (m : Nat) (g : Nat → T) : M := M.both (leadT o n f).m (leadT o m g).m
def sprU (o : Int) (n : Nat) (f : Nat → T) (m : Nat) (g : Nat → T) : T := if sprOk o n f m g = true then sprT (leadT o n f) (sprB o n f m g) else zeroT
def sprV (o : Int) (n : Nat) (f : Nat → T) (m : Nat) (g : Nat → T) : T := if sprOk o n f m g = true then sprT (leadT o m g) (sprB o n f m g) else zeroT
end Go.Proofs.YtdidlcjhodejjaaGreat
