/-
  The laws' own look whether operators are the same.
  What the functions over operators hand back, as lists.
  How many of some slopes may be taken of their times, and in how many ways: the iterator.
-/
import Derived.Test.YtmlaedpamobmhaaGreatPap
import Derived.Test.YtmlaedpamobmhaaGreatPah
import Derived.Test.YtmlaedpamobmhaaGreatPaa
import Derived.Test.YtmlaedpamobmhaaGreatPam
import Derived.RangeFuncNested
import Derived.RangeFuncLeaves
import Derived.Deep.RegionWith
import Derived.WalkKit
import Derived.OwnWalkIn
import Derived.TacticsInMore
import Derived.LoopNIn
import Derived.LoopIn
namespace Go.Proofs.YtmlaedpamobmhaaGreat
open Go.RowKit
set_option linter.unusedVariables false

set_option maxRecDepth 100000 in
set_option maxHeartbeats 4000000 in
theorem heSameT (w : World) (a a' : Option Addr) (n cap n' cap' : Nat) (f f' : Nat → T) (h : Rd w a n cap f) (h' : Rd w a' n' cap' f') :
    Calls Tryz.prog 17 #[.slice a n cap, .slice a' n' cap'] w fun r w' => r = .returned (.bool (termsEq n f n' f')) ∧ Below w.heap.size w w' := by
  obtain ⟨h1, h2, h3⟩ := h
  obtain ⟨h1', h2', h3'⟩ := h'
  have hn : (n : Int) ≤ 140737488351232 := by omega
  have hn' : (n' : Int) ≤ 140737488351232 := by omega
  by_cases hnn : n = n'
  · subst hnn
    go_enter Tryz.func17, Tryz.ntmps17
    go_wp2
    go_loopw [5] (fun i wr => ∃ (k : Nat), k ≤ n ∧ i = .int .i64 k ∧ Below w.heap.size w wr ∧ Hid (∀ j, j < k → (f j).eqB (f' j) = true)) (fun i _ => n - (intOf i).toNat)
    case atStart => exact ⟨0, Nat.zero_le _, rfl, Below.refl _ _, fun j hj => absurd hj (Nat.not_lt_zero _)⟩
    case round =>
      obtain ⟨k, hk, rfl, hB, hok⟩ := hrel
      by_cases hlt : k < n
      · rcases h3 with h0 | ⟨b, off, rfl, hblt, hcl⟩
        · omega
        rcases h3' with h0 | ⟨b', off', rfl, hblt', hcl'⟩
        · omega
        have hkn : (k : Int) < (n : Int) := by omega
        obtain ⟨g0, g1, g2, g3, g4⟩ := (hcl k hlt).below hB hblt
        obtain ⟨p0, p1, p2, p3, p4⟩ := (hcl' k hlt).below hB hblt'
        clear hcl hcl'
        by_cases hc : (f k).c = (f' k).c
        · skip
          by_cases hx : (f k).m.x = (f' k).m.x
          · skip
            by_cases hy : (f k).m.y = (f' k).m.y
            · skip
              by_cases hd : (f k).m.d = (f' k).m.d
              · skip
                by_cases he : (f k).m.e = (f' k).m.e
                · skip
                  have HN : Hid (∀ j, j < k + 1 → (f j).eqB (f' j) = true) := fun j hj => by
                    by_cases hjk : j = k
                    · rw [hjk]; simp [T.eqB, M.eqB, hc, hx, hy, hd, he]
                    · exact hok.out j (by omega)
                  clear hok
                  go_wp2_with fail
                  go_quiet (fail)
                  go_wp2
                  go_roundw
                  case rel => exact ⟨k + 1, by omega, by go_num, below_drewN hB _, HN⟩
                  case measure => simp [intOf]; omega
                · skip
                  have HN : Hid (termsEq n f n f' = false) := by
                    show _ = _
                    simp only [termsEq, decide_eq_false_iff_not]
                    intro hh
                    have := hh.2 k hlt
                    simp [T.eqB, M.eqB, he] at this
                  clear hok
                  go_wp2_with fail
                  go_quiet (fail)
                  go_wp2
                  go_ret
                  exact ⟨by rw [HN.out]; rfl, below_drewN hB _⟩
              · skip
                have HN : Hid (termsEq n f n f' = false) := by
                  show _ = _
                  simp only [termsEq, decide_eq_false_iff_not]
                  intro hh
                  have := hh.2 k hlt
                  simp [T.eqB, M.eqB, hd] at this
                clear hok
                go_wp2_with fail
                go_quiet (fail)
                go_wp2
                go_ret
                exact ⟨by rw [HN.out]; rfl, below_drewN hB _⟩
            · skip
              have HN : Hid (termsEq n f n f' = false) := by
                show _ = _
                simp only [termsEq, decide_eq_false_iff_not]
                intro hh
                have := hh.2 k hlt
                simp [T.eqB, M.eqB, hy] at this
              clear hok
              go_wp2_with fail
              go_quiet (fail)
              go_wp2
              go_ret
              exact ⟨by rw [HN.out]; rfl, below_drewN hB _⟩
          · skip
            have HN : Hid (termsEq n f n f' = false) := by
              show _ = _
              simp only [termsEq, decide_eq_false_iff_not]
              intro hh
              have := hh.2 k hlt
              simp [T.eqB, M.eqB, hx] at this
            clear hok
            go_wp2_with fail
            go_quiet (fail)
            go_wp2
            go_ret
            exact ⟨by rw [HN.out]; rfl, below_drewN hB _⟩
        · skip
          have HN : Hid (termsEq n f n f' = false) := by
            show _ = _
            simp only [termsEq, decide_eq_false_iff_not]
            intro hh
            have := hh.2 k hlt
            simp [T.eqB, M.eqB, hc] at this
          clear hok
          go_wp2_with fail
          go_quiet (fail)
          go_wp2
          go_ret
          exact ⟨by rw [HN.out]; rfl, below_drewN hB _⟩
      · have HP : Hid (termsEq n f n f' = true) := by
          show _ = _
          simp only [termsEq, decide_eq_true_eq]
          exact ⟨trivial, fun i hi => hok.out i (by omega)⟩
        clear hok
        go_wp2
        go_ret
        exact ⟨by rw [HP.out]; rfl, hB⟩
  · have hp : termsEq n f n' f' = false := by
      simp only [termsEq, decide_eq_false_iff_not]
      exact fun h => hnn h.1
    rw [hp]
    have hb : ((n : Int) != (n' : Int)) = true := by simp; omega
    clear hp
    go_enter Tryz.func17, Tryz.ntmps17
    go_wp2
    go_ret
    exact ⟨rfl, Below.refl _ _⟩
end Go.Proofs.YtmlaedpamobmhaaGreat
namespace Go.Proofs.YtmlaedpamobmhaaGreat
open Go.RowKit
set_option linter.unusedVariables false

/-- an operator and a truth are handed back. -/
def Two2 (w : World) (X : List T × Bool) (e : Ending) (w' : World) : Prop := ∃ a' c', e = .returned (.tuple #[.slice a' X.1.length c', .bool X.2]) ∧ Below w.heap.size w w' ∧ RL w' a' c' X.1
def One1 (w : World) (X : List T) (e : Ending) (w' : World) : Prop := ∃ a' c', e = .returned (.slice a' X.length c') ∧ Below w.heap.size w w' ∧ RL w' a' c' X
def Val (w : World) (v : Value) (e : Ending) (w' : World) : Prop := e = .returned v ∧ Below w.heap.size w w'
theorem rd_congr {w : World} {a : Option Addr} {n cap : Nat} {f g : Nat → T} (h : Rd w a n cap f) (e : ∀ i, i < n → f i = g i) : Rd w a n cap g :=
  ⟨h.1, h.2.1, h.2.2.imp id (fun ⟨b, off, h1, h2, h3⟩ => ⟨b, off, h1, h2, fun i hi => by rw [← e i hi]; exact h3 i hi⟩)⟩
theorem one_RL (w : World) (t : T) : RL (w.alloc (.cells #[.int .i64 t.c, .int .i64 t.m.x, .int .i64 t.m.y, .int .i64 t.m.d, .int .i64 t.m.e] 54)) (some ⟨w.heap.size, 0, none⟩) 1 [t] :=
  rd_congr (n := 1) (g := lf [t]) (rd_one w t) (fun i hi => by
    have h0 : i = 0 := by omega
    subst h0
    rfl)
theorem two_out {w : World} {X : List T × Bool} {e : Ending} {w' : World} (h : ∃ a' cap', e = .returned (.tuple #[.slice a' X.1.length cap', .bool X.2]) ∧ Below w.heap.size w w' ∧ Out w.heap.size w' a' cap' X.1) : Two2 w X e w' := by
  obtain ⟨a', c', h1, h2, h3⟩ := h
  exact ⟨a', c', h1, h2, h3.1⟩
theorem two_owns {w : World} {X : List T × Bool} {e : Ending} {w' : World} (hl : X.1.length ≤ 400) (h : ∃ v, e = .returned (.tuple #[v, .bool X.2]) ∧ Below w.heap.size w w' ∧ w'.ownsRow w.heap.size 54 5 v X.1.length (cellsL X.1)) : Two2 w X e w' := by
  obtain ⟨v, h1, h2, h3⟩ := h
  obtain ⟨a', c', rfl, h4⟩ := out_of_owns h3 (by omega)
  exact ⟨a', c', h1, h2, h4.1⟩
theorem one_owns {w : World} {X : List T} {e : Ending} {w' : World} (hl : X.length ≤ 400) (h : ∃ v, e = .returned v ∧ Below w.heap.size w w' ∧ w'.ownsRow w.heap.size 54 5 v X.length (cellsL X)) : One1 w X e w' := by
  obtain ⟨v, h1, h2, h3⟩ := h
  obtain ⟨a', c', rfl, h4⟩ := out_of_owns h3 (by omega)
  exact ⟨a', c', h1, h2, h4.1⟩
variable {w : World} {a b : Option Addr} {ca cb : Nat} {L K : List T}
theorem he_L (ha : RL w a ca L) (hb : RL w b cb K) : Calls Tryz.prog 17 #[.slice a L.length ca, .slice b K.length cb] w (Val w (.bool (sq L K))) := heSameT w a b L.length ca K.length cb (lf L) (lf K) ha hb
end Go.Proofs.YtmlaedpamobmhaaGreat
namespace Go.Proofs.YtmlaedpamobmhaaGreat
open Go.RowKit
set_option linter.unusedVariables false
attribute [local go_sem] Oper.semAt_some

/-- every block of cells lies as it lay. -/
def cellsK (W W' : World) : Prop := W.heap.size ≤ W'.heap.size ∧ ∀ (k : Nat) (o : Obj), W.heap[k]? = some o → o.isCells = true → W'.heap[k]? = some o
theorem cellsK_refl (W : World) : cellsK W W := ⟨Nat.le_refl _, fun _ _ h _ => h⟩
theorem cellsK_t {A B C : World} (h : cellsK A B) (k : cellsK B C) : cellsK A C := ⟨Nat.le_trans h.1 k.1, fun i o hi ho => k.2 i o (h.2 i o hi ho) ho⟩
theorem cellsK_b {w : World} (W : World) (l : Nat) (o o' : Obj) (_ : w.heap.size ≤ l) (h : W.heap[l]? = some o) (hc : o.isCells = false) (_ : o.isWalk = false) : cellsK W (W.putObj l o') :=
  ⟨by rw [World.putObj_size]; exact Nat.le_refl _, fun k o2 hk hc2 => (World.putObj_heap_other (fun e => by subst e; rw [h] at hk; cases hk; rw [hc] at hc2; cases hc2)).trans hk⟩
theorem cellsK_alloc (W : World) (o : Obj) : cellsK W (W.alloc o) := ⟨by simp, fun k o2 hk _ => (Below.heap_alloc W o k (Array.getElem?_eq_some_iff.1 hk).1).trans hk⟩
theorem cellsK_drew (W : World) : cellsK W W.drew := ⟨Nat.le_refl _, fun _ _ h _ => h⟩
theorem cellsK_grown {W W' : World} {row : Option Nat} (hg : W.grownBy W' row) (hr : ∀ k, row = some k → ∀ o, W.heap[k]? = some o → o.isCells = false) : cellsK W W' :=
  ⟨hg.size, fun k o hk hc => (hg.block k (Array.getElem?_eq_some_iff.1 hk).1 (fun e => by have := hr k e.symm o hk; rw [this] at hc; cases hc)).trans hk⟩
theorem boxed_cells {W W' : World} {B : Nat} {t : TypeId} {v : Value} (h : Boxed W B t v) (hk : cellsK W W') : Boxed W' B t v := hk.2 B _ h rfl
theorem drewG (w : World) : w.grownBy w.drew none := ⟨rfl, rfl, rfl, Nat.le_refl _, fun _ _ _ => rfl⟩
/-- how many are taken, and in how many ways. -/
abbrev TK (lim : Nat) : Type := { p : Int × Int // 0 ≤ p.1 ∧ p.1 ≤ (lim : Int) ∧ 0 ≤ p.2 ∧ p.2 ≤ 100 }
def encK {lim : Nat} (x : TK lim) : Array Value := #[.int .i64 x.1.1, .int .i64 x.1.2]
def wy (s t k : Int) : Int := fMul (fChoose s k) (fFall t k)
theorem fMul_range (a b : Int) : 0 ≤ fMul a b ∧ fMul a b ≤ 100 := by
  unfold fMul
  split <;> omega
def takeK (lim : Nat) (s t : Int) (k : Nat) : TK lim := ⟨((if k ≤ lim then (k : Int) else 0), wy s t k), by
  have := fMul_range (fChoose s k) (fFall t k)
  refine ⟨?_, ?_, this.1, this.2⟩
  · show 0 ≤ (if k ≤ lim then (k : Int) else 0)
    split <;> omega
  · show (if k ≤ lim then (k : Int) else 0) ≤ _
    split <;> omega⟩
def uptoK (lim : Nat) (s t : Int) (k : Nat) : List (TK lim) := (List.range k).map (takeK lim s t)
theorem uptoK_succ (lim : Nat) (s t : Int) (k : Nat) : uptoK lim s t k ++ [takeK lim s t k] = uptoK lim s t (k + 1) := by simp [uptoK, List.range_succ]
theorem uptoK_len (lim : Nat) (s t : Int) (k : Nat) : (uptoK lim s t k).length = k := by simp [uptoK]
set_option maxRecDepth 100000 in
set_option maxHeartbeats 4000000 in
theorem taken1 {n : Nat} (hn : 1 ≤ n) (l B1 B2 : Nat) (s t : Int) (lim : Nat) (s0 : 0 ≤ s) (s1 : s ≤ 15) (t0 : 0 ≤ t) (t1 : t ≤ 15) (hl : (lim : Int) = min s t) (J Jx : List (TK lim) → World → Prop) (hJd : ∀ pre W, J pre W → J pre W.drew)
    (hY : ∀ pre x W, J pre W → pre.length < lim + 1 → YieldAt Fence.wide (n - 1) Tryz.prog l (encK x) W fun e W' => (e = .returned (.bool true) ∧ J (pre ++ [x]) W' ∧ cellsK W W') ∨ (e = .returned (.bool false) ∧ Jx (pre ++ [x]) W'))
    (W : World) (hb1 : Boxed W B1 3 (.int .i64 s)) (hb2 : Boxed W B2 3 (.int .i64 t)) (h0 : J [] W) :
    CallsIn Fence.wide n Tryz.prog 164 #[.func (.yield l) #[] #[], .pointer (some ⟨B1, 0, none⟩), .pointer (some ⟨B2, 0, none⟩)] W fun e W' => (∃ v, e = .returned v) ∧ ((∃ xs, xs = uptoK lim s t (lim + 1) ∧ J xs W') ∨ (∃ pre, True ∧ Jx pre W')) := by
  refine callsIn_of_wp Tryz.func164 rfl trivial ?_ rfl
  simp only [Tryz.ntmps164, List.size_toArray, List.length_cons, List.length_nil, Nat.reduceAdd, Nat.reduceSub, Array.replicate_succ, Array.replicate_zero, List.push_toArray, List.append_toArray, List.nil_append, List.cons_append]
  have c1 := hb1.cell
  have c2 := hb2.cell
  gi_wp2
  all_goals
    gi_loopw [10] (fun v wr => ∃ k : Nat, k ≤ lim + 1 ∧ v = .int .i64 (k : Int) ∧ J (uptoK lim s t k) wr ∧ Boxed wr B1 3 (.int .i64 s) ∧ Boxed wr B2 3 (.int .i64 t)) (fun v _ => (lim + 1) - (RowKit.intOf v).toNat)
    case atStart =>
      exact ⟨0, Nat.zero_le _, rfl, h0, hb1, hb2⟩
    case round =>
      obtain ⟨k, hk, rfl, hJ, b1, b2⟩ := hrel
      have c1 := b1.cell
      have c2 := b2.cell
      by_cases hlt : k ≤ lim
      · have hk1 : (k : Int) ≤ s := by omega
        have hk2 : (k : Int) ≤ t := by omega
        have hYk := hY (uptoK lim s t k) (takeK lim s t k) _ (hJd _ _ hJ) (by rw [uptoK_len]; omega)
        rw [uptoK_succ] at hYk
        have ek : encK (takeK lim s t k) = #[.int .i64 (k : Int), .int .i64 (wy s t k)] := by simp [encK, takeK, hlt]
        rw [ek] at hYk
        have hw : fMul (fChoose s k) (fFall t k) = wy s t k := rfl
        obtain ⟨fn, tmps, assign, body, hy, hRd⟩ := hYk
        gi_wp2_with fail
        refine (wpIn_wide (n := n)).2 ?_
        go_region_with (first
          | (go_at_call 165; refine (chooseI _ _ _).mono ?_; rintro e w' ⟨rfl, hw'⟩; obtain rfl := hw'.symm; clear hw')
          | (go_at_call 166; refine (fallI _ _ _).mono ?_; rintro e w' ⟨rfl, hw'⟩; obtain rfl := hw'.symm; clear hw')
          | (go_at_call 146; refine (mulI _ _ _).mono ?_; rw [hw]; rintro e w' ⟨rfl, hw'⟩; obtain rfl := hw'.symm; clear hw'))
        all_goals
          gi_wp2
          refine hRd.mono ?_
          rintro e W3 (⟨rfl, hJ3, hk3⟩ | ⟨rfl, hJx3⟩)
          · gi_wp2
            go_roundw
            case rel => exact ⟨k + 1, by omega, by go_num, hJ3, boxed_cells (W := wr.drew) b1 hk3, boxed_cells (W := wr.drew) b2 hk3⟩
            case measure => simp [RowKit.intOf]; omega
          · gi_wp2
            refine bodyPost_ret (results_none rfl _ _ _) rfl ?_
            exact ⟨⟨_, rfl⟩, .inr ⟨_, trivial, hJx3⟩⟩
      · have hk3 : k = lim + 1 := by omega
        subst hk3
        gi_wp2
        go_end0
        exact ⟨⟨_, rfl⟩, .inl ⟨_, rfl, hJ⟩⟩
theorem takenStops {n : Nat} (hn : 1 ≤ n) (B1 B2 : Nat) (s t : Int) (lim : Nat) (s0 : 0 ≤ s) (s1 : s ≤ 15) (t0 : 0 ≤ t) (t1 : t ≤ 15) (hl : (lim : Int) = min s t) (w : World) (hb1 : Boxed w B1 3 (.int .i64 s)) (hb2 : Boxed w B2 3 (.int .i64 t)) :
    SeqStopsK Fence.wide n Tryz.prog 164 #[.pointer (some ⟨B1, 0, none⟩), .pointer (some ⟨B2, 0, none⟩)] encK cellsK (fun xs => xs = uptoK lim s t (lim + 1)) (fun _ => True) (lim + 1) w := fun l J Jx W hW hJ _ hY h0 =>
  taken1 hn l B1 B2 s t lim s0 s1 t0 t1 hl J Jx (fun pre W h => hJ pre W W.drew none h (drewG W) (fun r e => by cases e)) hY W ((hW.block B1 hb1.lt).trans hb1) ((hW.block B2 hb2.lt).trans hb2) h0
set_option maxHeartbeats 1000000 in
theorem takenV {F : Fence} {n : Nat} (h7 : F.fn 152) (hro : F.round = none) (s t : Int) (w : World) :
    CallsIn F n Tryz.prog 152 #[.int .i64 s, .int .i64 t] w fun e w' => e = .returned (.func (.func 164) #[] #[.pointer (some ⟨w.heap.size, 0, none⟩), .pointer (some ⟨w.heap.size + 1, 0, none⟩)]) ∧ w' = (w.alloc (.cells #[.int .i64 s] 3)).alloc (.cells #[.int .i64 t] 3) := by
  refine callsIn_of_wp Tryz.func152 rfl h7 ?_ hro
  simp only [Tryz.ntmps152, List.size_toArray, List.length_cons, List.length_nil, Nat.reduceAdd, Nat.reduceSub, Array.replicate_succ, Array.replicate_zero, List.push_toArray, List.append_toArray, List.nil_append, List.cons_append]
  gi_wp2
  go_ret
  exact ⟨rfl, rfl⟩
end Go.Proofs.YtmlaedpamobmhaaGreat
