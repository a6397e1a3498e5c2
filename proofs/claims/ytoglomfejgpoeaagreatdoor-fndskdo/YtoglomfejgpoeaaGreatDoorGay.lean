/-
  Sums and differences of two operators.
  How many of some slopes may be taken of their times, and in how many ways: the iterator.
  A range over an iterator that itself ranges over iterators; its body always goes on.
-/
import Derived.Test.YtoglomfejgpoeaaGreatDoorGaw
import Derived.Test.YtoglomfejgpoeaaGreatDoorGax
import Derived.Test.YtoglomfejgpoeaaGreatDoorGan
import Derived.Test.YtoglomfejgpoeaaGreatDoorGaa
import Derived.Test.YtoglomfejgpoeaaGreatDoorGav
import Derived.RangeFuncNested
import Derived.RangeFuncLeaves
import Derived.Deep.RegionWith
import Derived.WalkKit
import Derived.OwnWalkIn
import Derived.TacticsInMore
import Derived.LoopNIn
import Derived.LoopIn
namespace Go.Proofs.YtoglomfejgpoeaaGreatDoor
open Go.RowKit Go.Maps Go.Sort Go.Shelf
set_option linter.unusedVariables false

theorem SumR.range {w : World} {b n : Nat} {c : M → Int} (h : SumR w b n c) : ∀ m, 0 ≤ c m ∧ c m ≤ 100 := by obtain ⟨D, _, hc, _⟩ := h; exact hc
theorem sumNew (w : World) : SumR (w.alloc (.map #[] 0)) w.heap.size 0 (fun _ => 0) :=
  ⟨.map [], World.ownsMap_made w _ _ _, fun _ => ⟨Int.le_refl _, by show (0 : Int) ≤ 100; decide⟩, fun m _ => ⟨rfl, by simp [Maps.has]⟩, fun kl h => by simp [Maps.has] at h⟩
theorem Rd.apart {w : World} {a : Option Addr} {n cap : Nat} {f : Nat → T} (h : Rd w a n cap f) {b : Nat} (hb : w.heap.size ≤ b) : n = 0 ∨ ∀ b' off, a = some ⟨b', off, none⟩ → some b' ≠ some b := by
  rcases h.2.2 with h0 | ⟨pb, off, rfl, hlt, _⟩
  · exact .inl h0
  · exact .inr (fun b' off' e e' => by cases e; cases e'; omega)
/-- what a sum is told as. -/
def sumL (K : List T) : List T × Bool := if K.length ≤ 400 then (K, true) else ([], false)
theorem sumOpI (w : World) (b n : Nat) (c : M → Int) (h : SumR w b n c) (hn : n ≤ 1000000) {K : List T} (hK : Falls K) (hKc : ∀ m, m.ok = true → coef K m = c m) :
    Calls Tryz.prog 80 #[.map (some b)] w fun e w' => ∃ v, e = .returned (.tuple #[v, .bool (sumL K).2]) ∧ Below w.heap.size w w' ∧ w'.ownsRow w.heap.size 80 5 v (sumL K).1.length (cellsL (sumL K).1) := by
  by_cases h400 : K.length ≤ 400
  · have e : sumL K = (K, true) := if_pos h400
    rw [e]
    exact sumOpOk sortsM w b n c h hn hK hKc h400
  · have e : sumL K = ([], false) := if_neg h400
    rw [e]
    refine (sumOpNo sortsM w b n c h hn hK hKc h400).mono ?_
    rintro r w5 ⟨rfl, hb5⟩
    exact ⟨_, rfl, hb5, owns_nil w5 _⟩
theorem makeHint (n : Int) (w : World) : (Instr.makeMap 101 (some (.int .i64 n))).run Tryz.prog w = .ok (.map (some w.heap.size)) (w.alloc (.map #[] 0)) := by
  have hu := run_underlying (P := Tryz.prog) Tryz.underlying101
  unfold Instr.makeMap
  simp [hu, asInt, go_sem, Sem.run_bind, Result.andThen]
/-- what adding k times another one gives. -/
def addK (k : Int) (f : Nat → T) (la : Nat) (g : Nat → T) (lb : Nat) (K : List T) : List T × Bool := if polOk la f = true ∧ polOk lb g = true ∧ K.length ≤ 400 then (K, true) else ([], false)
set_option maxRecDepth 100000 in
set_option maxHeartbeats 4000000 in
theorem polAddTimesI (w : World) (a b : Option Addr) (la ca lb cb : Nat) (f g : Nat → T) (k : Int) (k0 : 0 ≤ k) (k1 : k ≤ 100) (ha : Rd w a la ca f) (hb : Rd w b lb cb g) (K : List T) (hK : polOk la f = true → polOk lb g = true → Falls K ∧ ∀ m, m.ok = true → coef K m = timesC k g (timesC 1 f (fun _ => 0) la) lb m) :
    Calls Tryz.prog 78 #[.slice a la ca, .int .i64 k, .slice b lb cb] w fun r w' => ∃ v, r = .returned (.tuple #[v, .bool (addK k f la g lb K).2]) ∧ Below w.heap.size w w' ∧ w'.ownsRow w.heap.size 80 5 v (addK k f la g lb K).1.length (cellsL (addK k f la g lb K).1) := by
  have HA := Hid.mk' ha
  have HB := Hid.mk' hb
  have hla : (la : Int) ≤ 140737488351232 := by have := ha.2.1; omega
  have hlb : (lb : Int) ≤ 140737488351232 := by have := hb.2.1; omega
  clear ha hb
  cases hpa : polOk la f
  · have e1 : addK k f la g lb K = ([], false) := by simp [addK, hpa]
    rw [e1]
    go_enter Tryz.func78, Tryz.ntmps78
    go_wp2_with (go_at_call 44; refine (polOkI _ _ _ _ f HA.out).mono ?_; rw [hpa]; rintro r w1 ⟨rfl, hb1⟩; have HB1 := Hid.mk' hb1; clear hb1)
    refine bodyPost_ret (results_tmp2 rfl _ _ _) rfl ?_
    exact ⟨_, rfl, HB1.out, owns_nil w1 _⟩
  · cases hpb : polOk lb g
    · have e1 : addK k f la g lb K = ([], false) := by simp [addK, hpb]
      rw [e1]
      go_enter Tryz.func78, Tryz.ntmps78
      go_wp2_with (first
        | (go_at_call_of 44 (Value.slice a la ca); refine (polOkI _ _ _ _ f HA.out).mono ?_; rw [hpa]; rintro r w1 ⟨rfl, hb1⟩; have HB1 := Hid.mk' hb1; clear hb1)
        | (go_at_call_of 44 (Value.slice b lb cb); refine (polOkI _ _ _ _ g (HB.out.below HB1.out)).mono ?_; rw [hpb]; rintro r w2 ⟨rfl, hb2⟩; have HB2 := Hid.mk' hb2; clear hb2))
      refine bodyPost_ret (results_tmp2 rfl _ _ _) rfl ?_
      exact ⟨_, rfl, bel_next HB1.out HB2.out, owns_nil w2 _⟩
    · obtain ⟨hKf, hKc⟩ := hK hpa hpb
      have F := fl_of_ok hpa
      have G := fl_of_ok hpb
      have HF := Hid.mk' F
      have HG := Hid.mk' G
      have l1 : la ≤ 400 := by simp only [polOk, decide_eq_true_eq] at hpa; exact hpa.1
      have l2 : lb ≤ 400 := by simp only [polOk, decide_eq_true_eq] at hpb; exact hpb.1
      have hmk := makeHint
      have e2 : addK k f la g lb K = sumL K := by simp [addK, sumL, hpa, hpb]
      rw [e2]
      clear F G e2 hK
      go_enter Tryz.func78, Tryz.ntmps78
      go_wp2_with (first
        | (go_at_call_of 44 (Value.slice a la ca); refine (polOkI _ _ _ _ f HA.out).mono ?_; rw [hpa]; rintro r w1 ⟨rfl, hb1⟩; have HB1 := Hid.mk' hb1; clear hb1)
        | (go_at_call_of 44 (Value.slice b lb cb); refine (polOkI _ _ _ _ g (HB.out.below HB1.out)).mono ?_; rw [hpb]; rintro r w2 ⟨rfl, hb2⟩; have HB2 := Hid.mk' (bel_next HB1.out hb2); clear hb2)
        | (go_at_call_of 118 (Value.slice a la ca); refine (sumTimes _ w2.heap.size 0 _ 1 a la ca f (sumNew w2) ((HA.out.below HB2.out).below (bel_one w2 _)) ((HA.out.below HB2.out).apart (Nat.le_refl _)) (fun i hi => (HF.out.2 i hi).1) (fun i hi => by have := HF.out.2 i hi; omega) (by omega) (by omega) (by omega) (by simp)).mono ?_; rintro r w3 ⟨rfl, hs3, hg3⟩; have HS3 := Hid.mk' hs3; have HG3 := Hid.mk' ((World.grownBy_alloc w2 (.map #[] 0) (some w2.heap.size)).trans hg3); clear hs3 hg3)
        | (go_at_call_of 118 (Value.slice b lb cb); refine (sumTimes _ w2.heap.size (0 + la) _ k b lb cb g HS3.out ((HB.out.below HB2.out).grown HG3.out ((HB.out.below HB2.out).apart (Nat.le_refl _))) ((HB.out.below HB2.out).apart (Nat.le_refl _)) (fun i hi => (HG.out.2 i hi).1) (fun i hi => by have := HG.out.2 i hi; omega) k0 k1 (by omega) (by obtain ⟨D, ho, _⟩ := HS3.out; exact ho.lt)).mono ?_; rintro r w4 ⟨rfl, hs4, hg4⟩; have HS4 := Hid.mk' hs4; have HG4 := Hid.mk' (HG3.out.trans hg4); clear hs4 hg4))
      have hlo : w.heap.size ≤ w2.heap.size := HB2.out.size
      have hB4 : Below w.heap.size w w4 := HB2.out.grown HG4.out hlo (fun k' e => by cases e; exact hlo)
      refine (sumOpI _ _ _ _ HS4.out (by omega) hKf hKc).mono ?_
      rintro r w5 ⟨v, rfl, hb5, ho5⟩
      go_wp2
      refine bodyPost_ret (results_tmp2 rfl _ _ _) rfl ?_
      exact ⟨_, rfl, hB4.trans (hb5.mono hB4.size), ownsRow_low ho5 hB4.size⟩
theorem polAdd_K {f g : Nat → T} {la lb : Nat} (hpa : polOk la f = true) (hpb : polOk lb g = true) : Falls (addT f la g lb 0 0) ∧ ∀ m, m.ok = true → coef (addT f la g lb 0 0) m = timesC 1 g (timesC 1 f (fun _ => 0) la) lb m := by
  obtain ⟨_, h2, h3⟩ := mrg_facts (fl_of_ok hpa) (fl_of_ok hpb) (la - 0 + (lb - 0)) 0 0 (Nat.le_refl _)
  refine ⟨h2, fun m _ => ?_⟩
  rw [sum_two (fl_of_ok hpa) (fl_of_ok hpb), Int.one_mul]
  exact h3 m
theorem fromC_congr {f g : Nat → T} (r : Int → Int) (hr : r 0 = 0) {m : M} : ∀ (u i : Nat), (∀ j, i ≤ j → j < i + u → (g j).m = (f j).m ∧ (g j).c = r (f j).c) → fromC g u i m = r (fromC f u i m)
  | 0, _, _ => hr.symm
  | u + 1, i, h => by
    have h0 := h i (Nat.le_refl _) (by omega)
    rw [fromC, fromC, h0.1, h0.2, fromC_congr r hr u (i + 1) (fun j h1 h2 => h j (by omega) (by omega))]
    split <;> rfl
theorem neg_fl {g : Nat → T} {lb : Nat} (G : Fl g lb) : Fl (negT g lb) lb := by
  refine ⟨fun j i hji hi => ?_, fun i hi => ?_⟩
  · unfold negT
    rw [lf_scT _ _ _ _ hi, lf_scT _ _ _ _ (by omega)]
    exact G.1 j i hji hi
  · have h := G.2 i hi
    unfold negT
    rw [lf_scT _ _ _ _ hi]
    refine ⟨h.1, ?_, ?_⟩
    · show 1 ≤ 100 * (g i).c % 101
      omega
    · show 100 * (g i).c % 101 ≤ 100
      omega
theorem polSub_K {f g : Nat → T} {la lb : Nat} (hpa : polOk la f = true) (hpb : polOk lb g = true) : Falls (addT f la (negT g lb) lb 0 0) ∧ ∀ m, m.ok = true → coef (addT f la (negT g lb) lb 0 0) m = timesC 100 g (timesC 1 f (fun _ => 0) la) lb m := by
  obtain ⟨_, h2, h3⟩ := mrg_facts (fl_of_ok hpa) (neg_fl (fl_of_ok hpb)) (la - 0 + (lb - 0)) 0 0 (Nat.le_refl _)
  refine ⟨h2, fun m _ => ?_⟩
  rw [sum_two (fl_of_ok hpa) (fl_of_ok hpb)]
  have h4 := fromC_congr (f := g) (g := negT g lb) (fun c => 100 * c % 101) rfl (m := m) lb 0 (fun j _ hj => by
    unfold negT
    rw [lf_scT _ _ _ _ (by omega)]
    exact ⟨rfl, rfl⟩)
  refine (h3 m).trans ?_
  rw [Nat.sub_zero, Nat.sub_zero, h4]
  omega
set_option maxHeartbeats 1000000 in
theorem polAddI (w : World) (a b : Option Addr) (la ca lb cb : Nat) (f g : Nat → T) (ha : Rd w a la ca f) (hb : Rd w b lb cb g) :
    Calls Tryz.prog 38 #[.slice a la ca, .slice b lb cb] w fun r w' => ∃ a' cap', r = .returned (.tuple #[.slice a' (polAdd f la g lb).1.length cap', .bool (polAdd f la g lb).2]) ∧ Below w.heap.size w w' ∧ Out w.heap.size w' a' cap' (polAdd f la g lb).1 := by
  have hc := polAddTimesI w a b la ca lb cb f g 1 (by omega) (by omega) ha hb (addT f la g lb 0 0) polAdd_K
  have e : addK 1 f la g lb (addT f la g lb 0 0) = polAdd f la g lb := rfl
  rw [e] at hc
  have hlen := polAdd_len f la g lb
  generalize polAdd f la g lb = r at *
  obtain ⟨L, ok⟩ := r
  go_enter Tryz.func38, Tryz.ntmps38
  go_wp2_with (go_at_call 78; refine hc.mono ?_; rintro r w1 ⟨v, rfl, hb1, ho1⟩)
  refine bodyPost_ret (results_tmp2 rfl _ _ _) rfl ?_
  obtain ⟨a', cap', rfl, hout⟩ := out_of_owns ho1 (by omega)
  exact ⟨a', cap', rfl, hb1, hout⟩
set_option maxHeartbeats 1000000 in
theorem polSubI (w : World) (a b : Option Addr) (la ca lb cb : Nat) (f g : Nat → T) (ha : Rd w a la ca f) (hb : Rd w b lb cb g) :
    Calls Tryz.prog 81 #[.slice a la ca, .slice b lb cb] w fun r w' => ∃ a' cap', r = .returned (.tuple #[.slice a' (polSub f la g lb).1.length cap', .bool (polSub f la g lb).2]) ∧ Below w.heap.size w w' ∧ Out w.heap.size w' a' cap' (polSub f la g lb).1 := by
  have hc := polAddTimesI w a b la ca lb cb f g 100 (by omega) (by omega) ha hb (addT f la (negT g lb) lb 0 0) polSub_K
  have e : addK 100 f la g lb (addT f la (negT g lb) lb 0 0) = polSub f la g lb := rfl
  rw [e] at hc
  have hlen := polSub_len f la g lb
  generalize polSub f la g lb = r at *
  obtain ⟨L, ok⟩ := r
  go_enter Tryz.func81, Tryz.ntmps81
  go_wp2_with (go_at_call 78; refine hc.mono ?_; rintro r w1 ⟨v, rfl, hb1, ho1⟩)
  refine bodyPost_ret (results_tmp2 rfl _ _ _) rfl ?_
  obtain ⟨a', cap', rfl, hout⟩ := out_of_owns ho1 (by omega)
  exact ⟨a', cap', rfl, hb1, hout⟩
end Go.Proofs.YtoglomfejgpoeaaGreatDoor
namespace Go.Proofs.YtoglomfejgpoeaaGreatDoor
open Go.RowKit
set_option linter.unusedVariables false
attribute [local go_sem] Oper.semAt_some

/-- every block of cells lies as it lay. -/
def cellsK (W W' : World) : Prop := W.heap.size ≤ W'.heap.size ∧ ∀ (k : Nat) (o : Obj), W.heap[k]? = some o → o.isCells = true → W'.heap[k]? = some o
theorem cellsK_refl (W : World) : cellsK W W := ⟨Nat.le_refl _, fun _ _ h _ => h⟩
theorem cellsK_t {A B C : World} (h : cellsK A B) (k : cellsK B C) : cellsK A C := ⟨Nat.le_trans h.1 k.1, fun i o hi ho => k.2 i o (h.2 i o hi ho) ho⟩
theorem cellsK_b {w : World} (W : World) (l : Nat) (o o' : Obj) (_ : w.heap.size ≤ l) (h : W.heap[l]? = some o) (hc : o.isCells = false) (_ : o.isWalk = false) : cellsK W (W.putObj l o') :=
  ⟨by rw [World.putObj_size]; exact Nat.le_refl _, fun k o2 hk hc2 => (World.putObj_heap_other (fun e => by subst e; rw [h] at hk; cases hk; rw [hc] at hc2; cases hc2)).trans hk⟩
theorem cellsK_alloc (W : World) (o : Obj) : cellsK W (W.alloc o) := ⟨by simp, fun k o2 hk _ => (Below.heap_alloc W o k (Array.getElem?_eq_some_iff.1 hk).1).trans hk⟩
theorem cellsK_drew (W : World) : cellsK W W.drew := ⟨Nat.le_refl _, fun _ _ h _ => h⟩
theorem cellsK_grown {W W' : World} {row : Option Nat} (hg : W.grownBy W' row) (hr : ∀ k, row = some k → ∀ o, W.heap[k]? = some o → o.isCells = false) : cellsK W W' :=
  ⟨hg.size, fun k o hk hc => (hg.block k (Array.getElem?_eq_some_iff.1 hk).1 (fun e => by have := hr k e.symm o hk; rw [this] at hc; cases hc)).trans hk⟩
theorem boxed_cells {W W' : World} {B : Nat} {t : TypeId} {v : Value} (h : Boxed W B t v) (hk : cellsK W W') : Boxed W' B t v := hk.2 B _ h rfl
theorem drewG (w : World) : w.grownBy w.drew none := ⟨rfl, rfl, rfl, Nat.le_refl _, fun _ _ _ => rfl⟩
/-- how many are taken, and in how many ways. -/
abbrev TK (lim : Nat) : Type := { p : Int × Int // 0 ≤ p.1 ∧ p.1 ≤ (lim : Int) ∧ 0 ≤ p.2 ∧ p.2 ≤ 100 }
def encK {lim : Nat} (x : TK lim) : Array Value := #[.int .i64 x.1.1, .int .i64 x.1.2]
def wy (s t k : Int) : Int := fMul (fChoose s k) (fFall t k)
theorem fMul_range (a b : Int) : 0 ≤ fMul a b ∧ fMul a b ≤ 100 := by
  unfold fMul
  split <;> omega
def takeK (lim : Nat) (s t : Int) (k : Nat) : TK lim := ⟨((if k ≤ lim then (k : Int) else 0), wy s t k), by
  have := fMul_range (fChoose s k) (fFall t k)
  refine ⟨?_, ?_, this.1, this.2⟩
  · show 0 ≤ (if k ≤ lim then (k : Int) else 0)
    split <;> omega
  · show (if k ≤ lim then (k : Int) else 0) ≤ _
    split <;> omega⟩
def uptoK (lim : Nat) (s t : Int) (k : Nat) : List (TK lim) := (List.range k).map (takeK lim s t)
theorem uptoK_succ (lim : Nat) (s t : Int) (k : Nat) : uptoK lim s t k ++ [takeK lim s t k] = uptoK lim s t (k + 1) := by simp [uptoK, List.range_succ]
theorem uptoK_len (lim : Nat) (s t : Int) (k : Nat) : (uptoK lim s t k).length = k := by simp [uptoK]
set_option maxRecDepth 100000 in
set_option maxHeartbeats 4000000 in
theorem taken1 {n : Nat} (hn : 1 ≤ n) (l B1 B2 : Nat) (s t : Int) (lim : Nat) (s0 : 0 ≤ s) (s1 : s ≤ 15) (t0 : 0 ≤ t) (t1 : t ≤ 15) (hl : (lim : Int) = min s t) (J Jx : List (TK lim) → World → Prop) (hJd : ∀ pre W, J pre W → J pre W.drew)
    (hY : ∀ pre x W, J pre W → pre.length < lim + 1 → YieldAt Fence.wide (n - 1) Tryz.prog l (encK x) W fun e W' => (e = .returned (.bool true) ∧ J (pre ++ [x]) W' ∧ cellsK W W') ∨ (e = .returned (.bool false) ∧ Jx (pre ++ [x]) W'))
    (W : World) (hb1 : Boxed W B1 3 (.int .i64 s)) (hb2 : Boxed W B2 3 (.int .i64 t)) (h0 : J [] W) :
    CallsIn Fence.wide n Tryz.prog 174 #[.func (.yield l) #[] #[], .pointer (some ⟨B1, 0, none⟩), .pointer (some ⟨B2, 0, none⟩)] W fun e W' => (∃ v, e = .returned v) ∧ ((∃ xs, xs = uptoK lim s t (lim + 1) ∧ J xs W') ∨ (∃ pre, True ∧ Jx pre W')) := by
  refine callsIn_of_wp Tryz.func174 rfl trivial ?_ rfl
  simp only [Tryz.ntmps174, List.size_toArray, List.length_cons, List.length_nil, Nat.reduceAdd, Nat.reduceSub, Array.replicate_succ, Array.replicate_zero, List.push_toArray, List.append_toArray, List.nil_append, List.cons_append]
  have c1 := hb1.cell
  have c2 := hb2.cell
  gi_wp2
  all_goals
    gi_loopw [10] (fun v wr => ∃ k : Nat, k ≤ lim + 1 ∧ v = .int .i64 (k : Int) ∧ J (uptoK lim s t k) wr ∧ Boxed wr B1 3 (.int .i64 s) ∧ Boxed wr B2 3 (.int .i64 t)) (fun v _ => (lim + 1) - (RowKit.intOf v).toNat)
    case atStart =>
      exact ⟨0, Nat.zero_le _, rfl, h0, hb1, hb2⟩
    case round =>
      obtain ⟨k, hk, rfl, hJ, b1, b2⟩ := hrel
      have c1 := b1.cell
      have c2 := b2.cell
      by_cases hlt : k ≤ lim
      · have hk1 : (k : Int) ≤ s := by omega
        have hk2 : (k : Int) ≤ t := by omega
        have hYk := hY (uptoK lim s t k) (takeK lim s t k) _ (hJd _ _ hJ) (by rw [uptoK_len]; omega)
        rw [uptoK_succ] at hYk
        have ek : encK (takeK lim s t k) = #[.int .i64 (k : Int), .int .i64 (wy s t k)] := by simp [encK, takeK, hlt]
        rw [ek] at hYk
        have hw : fMul (fChoose s k) (fFall t k) = wy s t k := rfl
        obtain ⟨fn, tmps, assign, body, hy, hRd⟩ := hYk
        gi_wp2_with fail
        refine (wpIn_wide (n := n)).2 ?_
        go_region_with (first
          | (go_at_call 175; refine (chooseI _ _ _).mono ?_; rintro e w' ⟨rfl, hw'⟩; obtain rfl := hw'.symm; clear hw')
          | (go_at_call 156; refine (fallI _ _ _).mono ?_; rintro e w' ⟨rfl, hw'⟩; obtain rfl := hw'.symm; clear hw')
          | (go_at_call 155; refine (mulI _ _ _).mono ?_; rw [hw]; rintro e w' ⟨rfl, hw'⟩; obtain rfl := hw'.symm; clear hw'))
        all_goals
          gi_wp2
          refine hRd.mono ?_
          rintro e W3 (⟨rfl, hJ3, hk3⟩ | ⟨rfl, hJx3⟩)
          · gi_wp2
            go_roundw
            case rel => exact ⟨k + 1, by omega, by go_num, hJ3, boxed_cells (W := wr.drew) b1 hk3, boxed_cells (W := wr.drew) b2 hk3⟩
            case measure => simp [RowKit.intOf]; omega
          · gi_wp2
            refine bodyPost_ret (results_none rfl _ _ _) rfl ?_
            exact ⟨⟨_, rfl⟩, .inr ⟨_, trivial, hJx3⟩⟩
      · have hk3 : k = lim + 1 := by omega
        subst hk3
        gi_wp2
        go_end0
        exact ⟨⟨_, rfl⟩, .inl ⟨_, rfl, hJ⟩⟩
theorem takenStops {n : Nat} (hn : 1 ≤ n) (B1 B2 : Nat) (s t : Int) (lim : Nat) (s0 : 0 ≤ s) (s1 : s ≤ 15) (t0 : 0 ≤ t) (t1 : t ≤ 15) (hl : (lim : Int) = min s t) (w : World) (hb1 : Boxed w B1 3 (.int .i64 s)) (hb2 : Boxed w B2 3 (.int .i64 t)) :
    SeqStopsK Fence.wide n Tryz.prog 174 #[.pointer (some ⟨B1, 0, none⟩), .pointer (some ⟨B2, 0, none⟩)] encK cellsK (fun xs => xs = uptoK lim s t (lim + 1)) (fun _ => True) (lim + 1) w := fun l J Jx W hW hJ _ hY h0 =>
  taken1 hn l B1 B2 s t lim s0 s1 t0 t1 hl J Jx (fun pre W h => hJ pre W W.drew none h (drewG W) (fun r e => by cases e)) hY W ((hW.block B1 hb1.lt).trans hb1) ((hW.block B2 hb2.lt).trans hb2) h0
set_option maxHeartbeats 1000000 in
theorem takenV {F : Fence} {n : Nat} (h7 : F.fn 149) (hro : F.round = none) (s t : Int) (w : World) :
    CallsIn F n Tryz.prog 149 #[.int .i64 s, .int .i64 t] w fun e w' => e = .returned (.func (.func 174) #[] #[.pointer (some ⟨w.heap.size, 0, none⟩), .pointer (some ⟨w.heap.size + 1, 0, none⟩)]) ∧ w' = (w.alloc (.cells #[.int .i64 s] 3)).alloc (.cells #[.int .i64 t] 3) := by
  refine callsIn_of_wp Tryz.func149 rfl h7 ?_ hro
  simp only [Tryz.ntmps149, List.size_toArray, List.length_cons, List.length_nil, Nat.reduceAdd, Nat.reduceSub, Array.replicate_succ, Array.replicate_zero, List.push_toArray, List.append_toArray, List.nil_append, List.cons_append]
  gi_wp2
  go_ret
  exact ⟨rfl, rfl⟩
end Go.Proofs.YtoglomfejgpoeaaGreatDoor
namespace Go.Proofs.YtoglomfejgpoeaaGreatDoor
open Go.RowKit
set_option linter.unusedVariables false

theorem round_any {m m' : Nat} {P : Program} {l : Nat} {f : FuncId} {tmps : Array Value} {assign body : Code} {w : World} {R : Ending → World → Prop} (h : RoundIn Fence.wide m P l f tmps assign body w R) : RoundIn Fence.wide m' P l f tmps assign body w R := ⟨h.1, fun c cs _ => h.2 c cs (room_wide _)⟩
theorem yield_any {m : Nat} (m' : Nat) {P : Program} {l : Nat} {args : Array Value} {W : World} {R : Ending → World → Prop} (h : YieldAt Fence.wide m P l args W R) : YieldAt Fence.wide m' P l args W R := by
  obtain ⟨fn, tmps, assign, body, hy, hR⟩ := h
  exact ⟨fn, tmps, assign, body, hy, round_any hR⟩
theorem keeps_not_cells {W W' : World} {row : Option Nat} {B : Nat} (hg : W.grownBy W' row) (hr : ∀ r, row = some r → B ≤ r) {k : Nat} {o : Obj} (hk : W.heap[k]? = some o) (hkB : k < B) : W'.heap[k]? = some o :=
  (hg.block k (Array.getElem?_eq_some_iff.1 hk).1 (fun e => by have := hr k e.symm; omega)).trans hk
theorem kf_mono {B B' : Nat} {W W' : World} (h : KeepsFrom B W W') (hB : B ≤ B') : KeepsFrom B' W W' := ⟨h.size, fun k o hk => h.same k o (Nat.le_trans hB hk)⟩
/-- the iterator g, with lb captured, gives just xs, where every round goes on and keeps all cells. -/
def SeqL {α : Type} (P : Program) (g : Nat) (lb : Array Value) (encs : α → Array Value) (xs : List α) (w : World) : Prop :=
  ∀ (l : Nat) (J : List α → World → Prop) (W : World), Below w.heap.size w W → OwnFrom W.heap.size J →
    (∀ pre x W1, J pre W1 → YieldAt Fence.wide 0 P l (encs x) W1 fun e W' => e = .returned (.bool true) ∧ J (pre ++ [x]) W' ∧ cellsK W1 W' ∧ KeepsFrom W.heap.size W1 W') →
    J [] W → Calls P g (#[.func (.yield l) #[] #[]] ++ lb) W fun e W' => (∃ v, e = .returned v) ∧ J xs W'
set_option maxHeartbeats 1000000 in
theorem rangeL {α : Type} {P : Program} {n : Nat} {g : Operand} {ps : Array Tmp} {assign body : Code} {Q : Exit → Act → World → Prop} {a : Act} {w : World} (h1 : 1 ≤ n) {gf : Nat} {lb : Array Value} (hg : a.eval g = .func (.func gf) #[] lb)
    (eg : ∀ args w, (callFunc gf args).run P w = .ok (.enter gf args) w) {encs : α → Array Value} {xs : List α} {w0 : World} (hseq : SeqL P gf lb encs xs w0) (hb0 : Below w0.heap.size w0 w) (hps : ∀ x, (encs x).size = ps.size)
    (I : List α → World → Prop) (hI : OwnFrom w.heap.size I) (h0 : I [] w) (Ax : α → Act → World → Prop) (hAx : ∀ x a', OwnFrom w.heap.size (fun (_ : Unit) W => Ax x a' W))
    (hassign : ∀ (l : Nat) (pre : List α) (x : α) (W : World) (K : Act → World → Prop), I pre W → (∀ a' W', KeepsFrom w.heap.size W W' → cellsK W W' → I pre W' → Ax x a' W' → K a' W') →
      assign.wpIn (Fence.wide.inRound l) 0 P (Exit.then K (fun _ _ _ => False)) { tmps := (ps.zip (encs x)).foldl (fun t (p, v) => t.setIfInBounds p v) a.tmps, defers := [] } W)
    (hbody : ∀ (l : Nat) (pre : List α) (x : α) (a' : Act) (W : World), I pre W → Ax x a' W → body.wpIn (Fence.wide.inRound l) 0 P (fun e _ W' => e = .normal ∧ KeepsFrom w.heap.size W W' ∧ cellsK W W' ∧ I (pre ++ [x]) W') a' W)
    (hdone : ∀ (D : Nat) (W : World), w.heap.size ≤ D → I xs W → W.heap[D]? = some (.deferred (some [])) → Q .normal { a with defers := { target := .collected D, args := #[] } :: a.defers } W) :
    (Code.rangeFunc g ps assign body).wpIn Fence.wide n P Q a w := by
  refine wpIn_rangeFunc ?_
  intro fn hfn
  obtain ⟨rec, hrec⟩ : ∃ rec : LoopState → Option Code → Loop, rec = fun st pe => { state := st, pending := pe, fn, tmps := a.tmps, params := ps, assign, body, defers := w.heap.size } := ⟨_, rfl⟩
  obtain ⟨W1, hW1⟩ : ∃ W1, (w.alloc (.deferred (some []))).alloc (.loop (rec .ready none)) = W1 := ⟨_, rfl⟩
  have hs1 : W1.heap.size = w.heap.size + 2 := by rw [← hW1]; simp
  have hL1 : W1.heap[w.heap.size + 1]? = some (.loop (rec .ready none)) := by
    rw [← hW1]
    have := World.alloc_heap_new (w.alloc (.deferred (some []))) (.loop (rec .ready none))
    rwa [World.size_alloc] at this
  have hK1 : W1.heap[w.heap.size]? = some (.deferred (some [])) := by
    rw [← hW1]
    exact (Below.heap_alloc _ _ _ (by simp)).trans (World.alloc_heap_new w _)
  have hI1 : I [] W1 := by rw [← hW1]; exact hI.alloc _ (hI.alloc _ h0)
  have hb1 : Below w0.heap.size w0 W1 := by
    rw [← hW1]
    exact hb0.trans ((((Below.refl _ w).alloc (Nat.le_refl _) _).alloc (by simp) _).mono hb0.size)
  refine ⟨w.heap.size + 1, [{ target := .collected w.heap.size, args := #[] }], W1, { target := .fn (.func gf) lb, args := #[.func (.yield (w.heap.size + 1)) #[] #[]] }, W1, gf,
    #[.func (.yield (w.heap.size + 1)) #[] #[]] ++ lb, W1, ?_, ?_, ?_, ?_, fun _ => h1, ?_⟩
  · rw [← hW1, hrec]; exact run_enterLoop_outer _ _ _ _ _
  · simp only [resolve, hg]
    simp [go_sem]
  · intro f' _; exact trivial
  · simp [invoke, go_sem, eg]
  · refine callsIn_wide.2 ((hseq (w.heap.size + 1) (fun pre W => I pre W ∧ W.heap[w.heap.size + 1]? = some (.loop (rec .ready none)) ∧ W.heap[w.heap.size]? = some (.deferred (some []))) W1 hb1
      (fun s A B row hs hg' hr => ⟨hI s A B row hs.1 hg' (fun r e => ⟨by have := (hr r e).1; omega, (hr r e).2⟩), keeps_not_cells hg' (B := W1.heap.size) (fun r e => (hr r e).1) hs.2.1 (by omega), keeps_not_cells hg' (B := W1.heap.size) (fun r e => (hr r e).1) hs.2.2 (by omega)⟩)
      ?_ ⟨hI1, hL1, hK1⟩).mono ?_)
    · rintro pre x W ⟨hi, hl, hk⟩
      have hy := run_yield (P := P) (args := encs x) hl (by rw [hrec]; exact hps x)
      rw [hrec] at hy
      refine ⟨fn, _, assign, body, hy, roundIn_of_wpIn hfn (hassign _ pre x W _ hi ?_)⟩
      clear hy
      intro a' Wa hkfa hkpa hia hax
      have hla := hkfa.same _ _ (by omega) hl rfl
      have hka := hkfa.same _ _ (Nat.le_refl _) hk rfl
      have hlt : w.heap.size + 1 < Wa.heap.size := (Array.getElem?_eq_some_iff.1 hla).1
      refine ⟨_, run_beginRound hla (by rw [hrec]), ?_⟩
      have hl2 : (Wa.putObj (w.heap.size + 1) (.loop { rec .ready none with state := .busy })).heap[w.heap.size + 1]? = some (.loop { rec .ready none with state := .busy }) := World.putObj_heap_same hlt
      have hk2 : (Wa.putObj (w.heap.size + 1) (.loop { rec .ready none with state := .busy })).heap[w.heap.size]? = some (.deferred (some [])) := (World.putObj_heap_other (by omega)).trans hka
      have hw2 : cellsK Wa (Wa.putObj (w.heap.size + 1) (.loop { rec .ready none with state := .busy })) := cellsK_b (w := w) _ _ _ _ (by omega) hla rfl rfl
      refine wpIn_mono (hbody _ pre x a' _ (hI.putObj _ hia (by omega) hla rfl) ((hAx x a').putObj (s := ()) _ hax (by omega) hla rfl)) ?_
      rintro e a3 W3 ⟨rfl, hk3, hkp3, hi3⟩
      have hl3 := hk3.same _ _ (by omega) hl2 rfl
      have hr := run_endRound (P := P) none hl3
      refine ⟨_, _, hr, rfl, ⟨hI.putObj _ hi3 (by omega) hl3 rfl, ?_, (World.putObj_heap_other (by omega)).trans (hk3.same _ _ (Nat.le_refl _) hk2 rfl)⟩, cellsK_t hkpa (cellsK_t (cellsK_t hw2 hkp3) (cellsK_b (w := w) _ _ _ _ (by omega) hl3 rfl rfl)), (kf_mono hkfa (by omega)).trans ((KeepsFrom.of_grownBy (grownBy_putObj' Wa (w.heap.size + 1) (.loop { rec .ready none with state := .busy })) (fun j e => by cases e; omega)).trans ((kf_mono hk3 (by omega)).trans (KeepsFrom.of_grownBy (grownBy_putObj' W3 (w.heap.size + 1) _) (fun j e => by cases e; omega))))⟩
      rw [hrec]
      exact World.putObj_heap_same (Array.getElem?_eq_some_iff.1 hl3).1
    · rintro e W2 ⟨⟨v, rfl⟩, hi, hl, hk⟩
      refine ⟨none, _, by have := run_endLoop (P := P) hl (by rw [hrec]; simp); rw [hrec] at this; exact this, hdone _ _ (Nat.le_refl _) (hI.putObj _ hi (by omega) hl rfl) ((World.putObj_heap_other (by omega)).trans hk)⟩
end Go.Proofs.YtoglomfejgpoeaaGreatDoor
