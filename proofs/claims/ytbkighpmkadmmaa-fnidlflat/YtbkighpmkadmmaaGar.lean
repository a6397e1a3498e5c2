/-
  slices.Backward of monomials as an iterator that may be stopped.
  A region that draws its order and ends in an append, by one invariant; nothing is read from a reader.
  A region that draws its order within a round: it runs as anywhere.
-/
import Derived.Test.YtbkighpmkadmmaaGaq
import Derived.RangeFuncNested
import Derived.RangeFuncLeaves
import Derived.Test.YtbkighpmkadmmaaGaj
import Derived.Test.YtbkighpmkadmmaaGab
import Derived.OrdersIn
import Derived.RangeFuncCalls
import Derived.Deep.Quiet
namespace Go.Proofs.Ytbkighpmkadmmaa
open Go.RowKit Go.Maps Go.Sort Go.Shelf
set_option linter.unusedVariables false
attribute [local go_sem] Oper.semAt_some

abbrev BA : Type := Nat × OM
def encB (x : BA) : Array Value := #[.int .i64 (x.1 : Int), .agg #[.int .i64 x.2.1.x, .int .i64 x.2.1.y, .int .i64 x.2.1.d, .int .i64 x.2.1.e]]
def itemB (d : List OM) (i : Nat) : BA := (i, d.getD i default)
/-- what has come when those from the k-th on have. -/
def doneB (d : List OM) (k : Nat) : List BA := (List.range (d.length - k)).map fun j => itemB d (d.length - 1 - j)
theorem doneB_start (d : List OM) : doneB d d.length = [] := by simp [doneB]
theorem doneB_step (d : List OM) (k : Nat) (h : k < d.length) : doneB d (k + 1) ++ [itemB d k] = doneB d k := by
  unfold doneB
  rw [show d.length - k = (d.length - (k + 1)) + 1 by omega, List.range_succ, List.map_append]
  simp only [List.map_cons, List.map_nil]
  rw [show d.length - 1 - (d.length - (k + 1)) = k by omega]
theorem doneB_length (d : List OM) (k : Nat) : (doneB d k).length = d.length - k := by simp [doneB]
/-- what the iterator wants kept between two rounds: its box, and the row. -/
def keepB (Bm : Nat) (p : Option Addr) (W W' : World) : Prop := W.heap.size ≤ W'.heap.size ∧ ∀ k, (k = Bm ∨ p = some ⟨k, 0, none⟩) → W'.heap[k]? = W.heap[k]?
theorem keepB_t {Bm : Nat} {p : Option Addr} {A B C : World} (h : keepB Bm p A B) (k : keepB Bm p B C) : keepB Bm p A C := ⟨Nat.le_trans h.1 k.1, fun i hi => (k.2 i hi).trans (h.2 i hi)⟩
theorem keepB_b {Bm : Nat} {p : Option Addr} {w : World} (hB : Bm < w.heap.size) (hp : ∀ k, p = some ⟨k, 0, none⟩ → k < w.heap.size) (W : World) (l : Nat) (o o' : Obj) (hl : w.heap.size ≤ l) (h : W.heap[l]? = some o) (_ : o.isCells = false) (_ : o.isWalk = false) : keepB Bm p W (W.putObj l o') :=
  ⟨by rw [World.putObj_size]; exact Nat.le_refl _, fun k hk => World.putObj_heap_other (by rcases hk with rfl | hk; omega; have := hp k hk; omega)⟩
set_option maxHeartbeats 1000000 in
theorem backV {F : Fence} {n : Nat} (h7 : F.fn 97) (hro : F.round = none) (p : Option Addr) (k cap : Nat) (w : World) :
    CallsIn F n Try.prog 97 #[.slice p k cap] w fun e w' => e = .returned (.func (.func 115) #[] #[.pointer (some ⟨w.heap.size, 0, none⟩)]) ∧ w' = w.alloc (.cells #[.slice p k cap] 44) := by
  refine callsIn_of_wp Try.func97 rfl h7 ?_ hro
  simp only [Try.ntmps97, List.size_toArray, List.length_cons, List.length_nil, Nat.reduceAdd, Nat.reduceSub, Array.replicate_succ, Array.replicate_zero, List.push_toArray, List.append_toArray, List.nil_append, List.cons_append]
  gi_wp2
  go_ret
  exact ⟨rfl, rfl⟩
set_option maxRecDepth 100000 in
set_option maxHeartbeats 1000000 in
theorem back1S {F : Fence} {n : Nat} (h10 : F.fn 115) (hro : F.round = none) (hn : 1 ≤ n) (l Bm cap : Nat) (p : Option Addr) (d : List OM) (hd : d.length ≤ 1000000) (J Jx : List BA → World → Prop)
    (hY : ∀ pre x W, J pre W → pre.length < d.length → YieldAt F (n - 1) Try.prog l (encB x) W fun e W' => (e = .returned (.bool true) ∧ J (pre ++ [x]) W' ∧ keepB Bm p W W') ∨ (e = .returned (.bool false) ∧ Jx (pre ++ [x]) W'))
    (W : World) (hbox : W.cell? ⟨Bm, 0, none⟩ = some (.slice p d.length cap)) (hrow : RowV W p (d.map (·.1))) (h0 : J [] W) :
    CallsIn F n Try.prog 115 #[.func (.yield l) #[] #[], .pointer (some ⟨Bm, 0, none⟩)] W fun e W' => (∃ v, e = .returned v) ∧ ((∃ xs, xs = doneB d 0 ∧ J xs W') ∨ (∃ pre, True ∧ Jx pre W')) := by
  refine callsIn_of_wp Try.func115 rfl h10 ?_ hro
  simp only [Try.ntmps115, List.size_toArray, List.length_cons, List.length_nil, Nat.reduceAdd, Nat.reduceSub, Array.replicate_succ, Array.replicate_zero, List.push_toArray, List.append_toArray, List.nil_append, List.cons_append]
  gi_wp2
  gi_loopw [3] (fun v wr => ∃ k : Nat, k ≤ d.length ∧ v = .int .i64 ((k : Int) - 1) ∧ J (doneB d k) wr ∧ wr.cell? ⟨Bm, 0, none⟩ = some (.slice p d.length cap) ∧ RowV wr p (d.map (·.1))) (fun v _ => (RowKit.intOf v + 1).toNat)
  case atStart =>
    exact ⟨d.length, Nat.le_refl _, rfl, by rw [doneB_start]; exact h0, hbox, hrow⟩
  case round =>
    obtain ⟨k, hk, rfl, hJ, hb, hR⟩ := hrel
    cases k with
    | zero =>
      gi_wp2
      go_end0
      exact ⟨⟨_, rfl⟩, .inl ⟨_, rfl, hJ⟩⟩
    | succ k =>
      have e1 : ((k + 1 : Nat) : Int) - 1 = (k : Int) := by omega
      rw [e1]
      have hi : k < d.length := by omega
      obtain ⟨g, rfl, hgl, c0, c1, c2, c3⟩ := hR.here k (by simpa using hi)
      have HR := Hid.mk' hR
      have hYk := hY (doneB d (k + 1)) (itemB d k) _ hJ (by rw [doneB_length]; omega)
      rw [doneB_step d k hi] at hYk
      have eM : (d.map (·.1))[k]'(by simpa using hi) = (itemB d k).2.1 := by simp [itemB, hi]
      rw [eM] at c0 c1 c2 c3
      have hk1 : (itemB d k).1 = k := rfl
      clear hR eM hY
      obtain ⟨fn, tmps, assign, body, hy, hRd⟩ := hYk
      dsimp only [encB] at hy
      rw [hk1] at hy
      clear hk1
      generalize (itemB d k).2.1 = m at c0 c1 c2 c3 hy
      gi_wp2
      refine hRd.mono ?_
      rintro e W3 (⟨rfl, hJ3, hk3⟩ | ⟨rfl, hJx3⟩)
      · have hb3 : W3.cell? ⟨Bm, 0, none⟩ = some (.slice (some ⟨g, 0, none⟩) d.length cap) := (World.cell?_of_block (w := wr) (a := ⟨Bm, 0, none⟩) (hk3.2 Bm (.inl rfl))).trans hb
        gi_wp2
        go_roundw
        case rel => exact ⟨k, by omega, rfl, hJ3, hb3, HR.out.keep hk3.1 (fun g' e => hk3.2 g' (.inr e))⟩
        case measure => simp only [RowKit.intOf]; omega
      · gi_wp2
        refine bodyPost_ret (results_none rfl _ _ _) rfl ?_
        exact ⟨⟨_, rfl⟩, .inr ⟨_, trivial, hJx3⟩⟩
theorem backStops {n : Nat} (hn : 1 ≤ n) (Bm cap : Nat) (p : Option Addr) (d : List OM) (hd : d.length ≤ 1000000) (w : World) (hBm : Bm < w.heap.size) (hbox : w.cell? ⟨Bm, 0, none⟩ = some (.slice p d.length cap)) (hrow : RowV w p (d.map (·.1))) (hp : ∀ k, p = some ⟨k, 0, none⟩ → k < w.heap.size) :
    SeqStopsK Fence.wide n Try.prog 115 #[.pointer (some ⟨Bm, 0, none⟩)] encB (keepB Bm p) (fun xs => xs = doneB d 0) (fun _ => True) d.length w := fun l J Jx W hW _ _ hY h0 =>
  back1S (F := Fence.wide) trivial rfl hn l Bm cap p d hd J Jx hY W ((hW.cell (p := ⟨Bm, 0, none⟩) hBm).trans hbox) (hrow.keep hW.size (fun g e => hW.block g (hp g e))) h0
end Go.Proofs.Ytbkighpmkadmmaa
namespace Go.Proofs.Ytbkighpmkadmmaa
open Go.RowKit
set_option linter.unusedVariables false

theorem ready_depG {ops : Array Oper} {l : Array Bool} {i : Nat} {o : Oper} (hi : i ∈ Region.ready .any ops l) (ho : ops[i]? = some o) (k : Nat) (hk : o.after.any (fun e => Region.binds .any e && e.on == k) = true) : l.getD k false = true := by
  obtain ⟨_, o', ho', ha⟩ := mem_ready.1 hi
  rw [ho] at ho'
  obtain rfl := Option.some.inj ho'
  rw [Array.any_eq_true'] at hk
  obtain ⟨e, he, hh⟩ := hk
  simp only [Bool.and_eq_true, beq_iff_eq] at hh
  rw [← hh.2]
  exact ha e he hh.1
theorem getD_set_eqG {l : Array Bool} {i : Nat} (d : Bool) (h : i < l.size) : (l.setIfInBounds i true).getD i d = true := by
  rw [Array.getD_eq_getD_getElem?, Array.getElem?_setIfInBounds_self_of_lt h]; rfl
theorem rep_getDG (n k : Nat) : (Array.replicate n false).getD k false = false := by
  rw [Array.getD_eq_getD_getElem?, Array.getElem?_replicate]; split <;> rfl
def ClosedG (ops : Array Oper) (l : Array Bool) : Prop := ∀ i o, ops[i]? = some o → l.getD i false = true → ∀ e ∈ o.after, Region.binds .any e = true → l.getD e.on false = true
theorem ClosedG.start (ops : Array Oper) (n : Nat) : ClosedG ops (Array.replicate n false) := fun i o _ h => by rw [rep_getDG] at h; cases h
theorem ClosedG.step {ops : Array Oper} {l : Array Bool} {i : Nat} (h : ClosedG ops l) (hi : i ∈ Region.ready .any ops l) (hl : l.size = ops.size) : ClosedG ops (l.setIfInBounds i true) := by
  intro j o ho hj e he hb
  obtain ⟨_, o', ho', ha⟩ := mem_ready.1 hi
  have hil : i < l.size := by rw [hl]; exact (Array.getElem?_eq_some_iff.1 ho').1
  have hd : l.getD e.on false = true := by
    by_cases hji : j = i
    · subst hji
      rw [ho] at ho'
      obtain rfl := Option.some.inj ho'
      exact ha e he hb
    · rw [getD_set_ne false (fun e => hji e.symm)] at hj
      exact h j o ho hj e he hb
  by_cases hei : e.on = i
  · rw [hei, getD_set_eqG false hil]
  · rw [getD_set_ne false (fun e => hei e.symm)]; exact hd
theorem ClosedG.dep {ops : Array Oper} {l : Array Bool} {i : Nat} {o : Oper} (h : ClosedG ops l) (ho : ops[i]? = some o) (hd : l.getD i false = true) (k : Nat) (hk : o.after.any (fun e => Region.binds .any e && e.on == k) = true) : l.getD k false = true := by
  rw [Array.any_eq_true'] at hk
  obtain ⟨e, he, hh⟩ := hk
  simp only [Bool.and_eq_true, beq_iff_eq] at hh
  rw [← hh.2]
  exact h i o ho hd e he hh.1
theorem not_doneG {l : Array Bool} {i : Nat} (h : l.getD i true = false) : l.getD i false = true → False := fun k => by
  rw [Array.getD_eq_getD_getElem?] at h k
  cases hx : l[i]? with
  | none => rw [hx] at h; simp at h
  | some b => rw [hx] at h k; simp at h k; rw [h] at k; cases k
theorem all_doneG {ops : Array Oper} {l : Array Bool} (h : (List.range ops.size).all (fun i => match ops[i]? with | some o => o.after.all (fun e => !Region.binds .any e || decide (e.on < i)) | none => true) = true) (hr : Region.ready .any ops l = []) (hl : l.size = ops.size) : ∀ i, i < ops.size → l.getD i false = true := by
  intro i
  induction i using Nat.strongRecOn with
  | _ i ih =>
    intro hi
    cases hx : l.getD i false
    · exfalso
      rw [List.eq_nil_iff_forall_not_mem] at hr
      refine hr i (mem_ready.2 ⟨?_, ops[i], Array.getElem?_eq_getElem hi, fun e he hb => ?_⟩)
      · rw [Array.getD_eq_getD_getElem?] at hx ⊢
        rw [Array.getElem?_eq_getElem (by omega)] at hx ⊢
        simpa using hx
      · rw [List.all_eq_true] at h
        have h1 := h i (List.mem_range.2 hi)
        rw [Array.getElem?_eq_getElem hi] at h1
        simp only [Array.all_eq_true'] at h1
        have h2 := h1 e he
        rw [hb] at h2
        simp at h2
        exact ih e.on h2 (by omega)
    · rfl
theorem rep_no {n k : Nat} {p : Prop} (h : (Array.replicate n false).getD k false = true) : p := by rw [rep_getDG] at h; cases h
/-- A: the append. P: what each operation ahead of it leaves in its slot. Y: what is said of what the append hands back. -/
def RG (ops : Array Oper) (F : (Nat → Value) → Act) (P : Nat → World → Value → Prop) (n A : Nat) (w0 : World) (Y : World → Value → Prop) (v0 : Value) (l : Array Bool) (a : Act) (u : World) : Prop :=
  ∃ vs : Nat → Value, a = F vs ∧ (l.getD (A + 1) false = false → vs (A + 1) = v0) ∧ l.size = n ∧ ClosedG ops l ∧ (l.getD A false = false → Below w0.heap.size w0 u ∧ ∀ k, l.getD k false = true → P k u (vs k)) ∧ (l.getD A false = true → Y u (vs A)) ∧ (l.getD (A + 1) false = true → Y u (vs (A + 1)))
theorem RG.start {ops : Array Oper} {F : (Nat → Value) → Act} {P : Nat → World → Value → Prop} {n A : Nat} {w0 : World} {Y : World → Value → Prop} {v0 : Value} {a : Act} (vs : Nat → Value) (ha : a = F vs) (h0 : vs (A + 1) = v0) : RG ops F P n A w0 Y v0 (Array.replicate n false) a w0.drew :=
  ⟨vs, ha, fun _ => h0, by simp, ClosedG.start _ _, fun _ => ⟨(Below.refl _ _).drew, fun k h => rep_no h⟩, fun h => rep_no h, fun h => rep_no h⟩
theorem RG.step {ops : Array Oper} {F : (Nat → Value) → Act} {P : Nat → World → Value → Prop} {n A : Nat} {w0 u u' : World} {Y : World → Value → Prop} {v0 : Value} {l : Array Bool} {vs : Nat → Value} (i : Nat) (v : Value) {a : Act}
    (hP : ∀ k u u' v, P k u v → Below u.heap.size u u' → P k u' v) (hi : i ∈ Region.ready .any ops l) (hno : ops.size = n) (hA : l.getD A false = false) (hA1 : l.getD (A + 1) false = false) (hiA : i < A) (hl : l.size = n) (hcl : ClosedG ops l)
    (h0 : l.getD (A + 1) false = false → vs (A + 1) = v0) (hf : l.getD A false = false → Below w0.heap.size w0 u ∧ ∀ k, l.getD k false = true → P k u (vs k)) (hm : Below u.heap.size u u') (hv : P i u' v) (ha : a = F (fun k => if k = i then v else vs k)) : RG ops F P n A w0 Y v0 (l.setIfInBounds i true) a u' := by
  refine ⟨fun k => if k = i then v else vs k, ha, fun _ => (if_neg (by omega)).trans (h0 hA1), by simp [hl], hcl.step hi (by omega), fun _ => ⟨bel_next (hf hA).1 hm, fun k hk => ?_⟩, fun h => ?_, fun h => ?_⟩
  · by_cases hki : k = i
    · have hv2 : P k u' v := by rw [hki]; exact hv
      exact Eq.mpr (congrArg (fun z => P k u' z) (if_pos hki)) hv2
    · rw [getD_set_ne false (fun e => hki e.symm)] at hk
      exact Eq.mpr (congrArg (fun z => P k u' z) (if_neg hki)) (hP k u u' _ ((hf hA).2 k hk) hm)
  · rw [getD_set_ne false (by omega), hA] at h; cases h
  · rw [getD_set_ne false (by omega), hA1] at h; cases h
theorem RG.last {ops : Array Oper} {F : (Nat → Value) → Act} {P : Nat → World → Value → Prop} {n A : Nat} {w0 u' : World} {Y : World → Value → Prop} {v0 : Value} {l : Array Bool} {vs : Nat → Value} (v : Value) {a : Act}
    (hi : A ∈ Region.ready .any ops l) (hno : ops.size = n) (hAn : A < n) (hA1 : l.getD (A + 1) false = false) (hl : l.size = n) (hcl : ClosedG ops l) (h0 : l.getD (A + 1) false = false → vs (A + 1) = v0) (hv : Y u' v) (ha : a = F (fun k => if k = A then v else vs k)) : RG ops F P n A w0 Y v0 (l.setIfInBounds A true) a u' := by
  refine ⟨fun k => if k = A then v else vs k, ha, fun _ => (if_neg (by omega)).trans (h0 hA1), by simp [hl], hcl.step hi (by omega), fun h => ?_, fun _ => Eq.mpr (congrArg (fun z => Y u' z) (if_pos rfl)) hv, fun h => ?_⟩
  · rw [getD_set_eqG false (by omega)] at h; cases h
  · rw [getD_set_ne false (by omega), hA1] at h; cases h
theorem RG.asg {ops : Array Oper} {F : (Nat → Value) → Act} {P : Nat → World → Value → Prop} {n A : Nat} {w0 u : World} {Y : World → Value → Prop} {v0 : Value} {l : Array Bool} {vs : Nat → Value} {a : Act}
    (hi : A + 1 ∈ Region.ready .any ops l) (hno : ops.size = n) (hA : l.getD A false = true) (hAn : A + 1 < n) (hl : l.size = n) (hcl : ClosedG ops l) (hy : l.getD A false = true → Y u (vs A)) (ha : a = F (fun k => if k = A + 1 then vs A else vs k)) : RG ops F P n A w0 Y v0 (l.setIfInBounds (A + 1) true) a u := by
  refine ⟨fun k => if k = A + 1 then vs A else vs k, ha, fun h => (by rw [getD_set_eqG false (by omega)] at h; cases h), by simp [hl], hcl.step hi (by omega), fun h => ?_, fun _ => Eq.mpr (congrArg (fun z => Y u z) (if_neg (by omega))) (hy hA), fun _ => Eq.mpr (congrArg (fun z => Y u z) (if_pos rfl)) (hy hA)⟩
  rw [getD_set_ne false (by omega), hA] at h; cases h
theorem wp_region_rg {P : Program} {id : Nat} {ops : Array Oper} {Q : Exit → Act → World → Prop} (F : (Nat → Value) → Act) (K : Nat → World → Value → Prop) (n A : Nat) (w0 : World) (Y : World → Value → Prop) (v0 : Value) {a : Act} (hm : P.follows .mixedOrders = true)
    (h0 : RG ops F K n A w0 Y v0 (Array.replicate ops.size false) a w0.drew)
    (hs : ∀ l a w, RG ops F K n A w0 Y v0 l a w → ∀ i ∈ Region.ready .any ops l, wpOp P ops Q i (RG ops F K n A w0 Y v0 (l.setIfInBounds i true)) a w)
    (he : ∀ l a w, RG ops F K n A w0 Y v0 l a w → Region.ready .any ops l = [] → Q .normal a w) : (Code.region id ops true).wp P Q a w0 := wp_region_inv (I := RG ops F K n A w0 Y v0) hm h0 hs he
end Go.Proofs.Ytbkighpmkadmmaa
namespace Go.Proofs.Ytbkighpmkadmmaa
open Go.RowKit
set_option linter.unusedVariables false

theorem rows_round {n l : Nat} {P : Program} {row : String} {args : Array Value} {w : World} {R : Value → World → Prop} (h : Rows P row args w R) : RowsIn (Fence.wide.inRound l) n P row args w R :=
  fun c cs _ => let ⟨v, w', r, s⟩ := h c cs; ⟨v, w', r, stepsIn_wide.2 s⟩
theorem oper_round {n l : Nat} {P : Program} {o : Oper} {a : Act} {w : World} {K : Act → World → Prop} {Q : Exit → Act → World → Prop} (hd : ∀ c, o.op ≠ .defer c) (h : o.wp P a w K Q) : o.wpIn (Fence.wide.inRound l) n P a w K Q := by
  refine ⟨fun f _ => trivial, ?_⟩
  unfold Oper.wp at h
  rw [show (Fence.wide.inRound l).round = some l from rfl, Oper.semAt_some l _ _ hd]
  generalize (execOp a.eval o).run P w = r at *
  cases r with
  | ok x w' =>
    cases x <;> simp only [Oper.upon, Oper.uponIn] at h ⊢ <;> first
      | exact h
      | exact ⟨fun e => (by cases e), CallsIn.inRound l (callsIn_wide.2 h)⟩
      | exact ⟨fun e => (by cases e), rows_round h⟩
  | halt x w' => cases x <;> simp only [Oper.upon, Oper.uponIn] at h ⊢ <;> exact h
def noDefer (ops : Array Oper) : Bool := ops.all fun o => match o.op with | .defer _ => false | _ => true
theorem noDefer_at {ops : Array Oper} (h : noDefer ops = true) {i : Nat} {o : Oper} (ho : ops[i]? = some o) : ∀ c, o.op ≠ .defer c := by
  intro c hc
  unfold noDefer at h
  rw [Array.all_eq_true'] at h
  have := h o (Array.mem_of_getElem? ho)
  rw [hc] at this
  cases this
theorem op_round {n l : Nat} {P : Program} {ops : Array Oper} {Q : Exit → Act → World → Prop} (hd : noDefer ops = true) (hL : ¬ LetsOut Q) {i : Nat} {K : Act → World → Prop} {a : Act} {w : World} (h : wpOp P ops Q i K a w) : wpOpIn (Fence.wide.inRound l) n P ops Q i K a w := by
  unfold wpOp at h
  unfold wpOpIn
  split
  · rename_i ho; simp only [ho] at h; exact h
  · rename_i o ho
    simp only [ho] at h
    split
    · rename_i hw
      simp only [hw, if_true] at h
      rcases h with h | h
      · exact oper_round (noDefer_at hd ho) h
      · exact absurd h.2 hL
    · rename_i hw
      simp only [hw] at h
      exact ⟨fun _ _ => trivial, h⟩
theorem any_round {n l : Nat} {P : Program} {md : Region.Mode} {ops : Array Oper} {Q : Exit → Act → World → Prop} (hd : noDefer ops = true) (hL : ¬ LetsOut Q) :
    ∀ (fuel : Nat) (li : Array Bool) (a : Act) (w : World), wpAny P md ops Q fuel li a w → wpAnyIn (Fence.wide.inRound l) n P md ops Q fuel li a w
  | 0, _, _, _, h => h
  | fuel + 1, li, a, w, h => ⟨h.1, fun i hi => wpOpIn_mono (fun a' w' h' => any_round hd hL fuel _ a' w' h') (op_round hd hL (h.2 i hi))⟩
/-- a region that draws, in a round: by the rules for one outside. -/
theorem region_round {n l id : Nat} {P : Program} {ops : Array Oper} {Q : Exit → Act → World → Prop} {a : Act} {w : World} (hm : P.follows .mixedOrders = true) (hd : noDefer ops = true) (hL : ¬ LetsOut Q)
    (h : wpAny P .any ops Q ops.size (Array.replicate ops.size false) a w.drew) : (Code.region id ops true).wpIn (Fence.wide.inRound l) n P Q a w :=
  wpIn_region_any hm (any_round hd hL _ _ _ _ h)
theorem region_round_quiet {n l id : Nat} {P : Program} {ops : List Oper} {C : World → Prop} {Q : Exit → Act → World → Prop} {a : Act} {w : World} (hm : P.follows .mixedOrders = true) (hB : Region.lexB .any ops.toArray = true) (hd : noDefer ops.toArray = true) (hL : ¬ LetsOut Q) (hC : C w.drew)
    (h : wpQuiet P ops.toArray C (fun a' => ∀ w', C w' → Q .normal a' w') ops a) : (Code.region id ops.toArray true).wpIn (Fence.wide.inRound l) n P Q a w := by
  simp only [Region.lexB, Bool.and_eq_true] at hB
  refine region_round hm hd hL (wpAny_of_quiet (Q := fun a' => ∀ w', C w' → Q .normal a' w') (fun _ w' hw' h => h w' hw') _ _ _ _ hC ?_)
  have := wpAnyQ_lex (C := C) (md := .any) hB.1 ops.toArray.toList 0 (Array.replicate ops.toArray.size false) a (by simp) (by simpa using hB.2) (by simpa using h)
  simpa using this
theorem region_round_inv {n l id : Nat} {P : Program} {ops : Array Oper} {Q : Exit → Act → World → Prop} {I : Array Bool → Act → World → Prop} {a : Act} {w : World} (hm : P.follows .mixedOrders = true) (hd : noDefer ops = true) (hL : ¬ LetsOut Q)
    (h0 : I (Array.replicate ops.size false) a w.drew)
    (hs : ∀ l a w, I l a w → ∀ i ∈ Region.ready .any ops l, wpOp P ops Q i (I (l.setIfInBounds i true)) a w)
    (he : ∀ l a w, I l a w → Region.ready .any ops l = [] → Q .normal a w) : (Code.region id ops true).wpIn (Fence.wide.inRound l) n P Q a w :=
  region_round hm hd hL (wpAny_inv hs he ops.size _ a _ (by rw [undone_replicate]; exact Nat.le_refl _) h0)
end Go.Proofs.Ytbkighpmkadmmaa
