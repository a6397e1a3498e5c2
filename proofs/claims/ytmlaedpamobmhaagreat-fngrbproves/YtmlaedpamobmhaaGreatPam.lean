/-
  A region that draws its order and ends in an append, by one invariant; nothing is read from a reader.
  A region that draws its order within a round: it runs as anywhere.
  A region within a round that draws its order and ends in an append and a store, by one invariant.
-/
import Derived.Test.YtmlaedpamobmhaaGreatPal
import Derived.Test.YtmlaedpamobmhaaGreatPab
import Derived.OrdersIn
import Derived.RangeFuncCalls
import Derived.Deep.Quiet
import Derived.Deep.AppendLies
import Derived.Maps.OwnOps
namespace Go.Proofs.YtmlaedpamobmhaaGreat
open Go.RowKit
set_option linter.unusedVariables false

theorem ready_depG {ops : Array Oper} {l : Array Bool} {i : Nat} {o : Oper} (hi : i ∈ Region.ready .any ops l) (ho : ops[i]? = some o) (k : Nat) (hk : o.after.any (fun e => Region.binds .any e && e.on == k) = true) : l.getD k false = true := by
  obtain ⟨_, o', ho', ha⟩ := mem_ready.1 hi
  rw [ho] at ho'
  obtain rfl := Option.some.inj ho'
  rw [Array.any_eq_true'] at hk
  obtain ⟨e, he, hh⟩ := hk
  simp only [Bool.and_eq_true, beq_iff_eq] at hh
  rw [← hh.2]
  exact ha e he hh.1
theorem getD_set_eqG {l : Array Bool} {i : Nat} (d : Bool) (h : i < l.size) : (l.setIfInBounds i true).getD i d = true := by
  rw [Array.getD_eq_getD_getElem?, Array.getElem?_setIfInBounds_self_of_lt h]; rfl
theorem rep_getDG (n k : Nat) : (Array.replicate n false).getD k false = false := by
  rw [Array.getD_eq_getD_getElem?, Array.getElem?_replicate]; split <;> rfl
def ClosedG (ops : Array Oper) (l : Array Bool) : Prop := ∀ i o, ops[i]? = some o → l.getD i false = true → ∀ e ∈ o.after, Region.binds .any e = true → l.getD e.on false = true
theorem ClosedG.start (ops : Array Oper) (n : Nat) : ClosedG ops (Array.replicate n false) := fun i o _ h => by rw [rep_getDG] at h; cases h
theorem ClosedG.step {ops : Array Oper} {l : Array Bool} {i : Nat} (h : ClosedG ops l) (hi : i ∈ Region.ready .any ops l) (hl : l.size = ops.size) : ClosedG ops (l.setIfInBounds i true) := by
  intro j o ho hj e he hb
  obtain ⟨_, o', ho', ha⟩ := mem_ready.1 hi
  have hil : i < l.size := by rw [hl]; exact (Array.getElem?_eq_some_iff.1 ho').1
  have hd : l.getD e.on false = true := by
    by_cases hji : j = i
    · subst hji
      rw [ho] at ho'
      obtain rfl := Option.some.inj ho'
      exact ha e he hb
    · rw [getD_set_ne false (fun e => hji e.symm)] at hj
      exact h j o ho hj e he hb
  by_cases hei : e.on = i
  · rw [hei, getD_set_eqG false hil]
  · rw [getD_set_ne false (fun e => hei e.symm)]; exact hd
theorem ClosedG.dep {ops : Array Oper} {l : Array Bool} {i : Nat} {o : Oper} (h : ClosedG ops l) (ho : ops[i]? = some o) (hd : l.getD i false = true) (k : Nat) (hk : o.after.any (fun e => Region.binds .any e && e.on == k) = true) : l.getD k false = true := by
  rw [Array.any_eq_true'] at hk
  obtain ⟨e, he, hh⟩ := hk
  simp only [Bool.and_eq_true, beq_iff_eq] at hh
  rw [← hh.2]
  exact h i o ho hd e he hh.1
theorem not_doneG {l : Array Bool} {i : Nat} (h : l.getD i true = false) : l.getD i false = true → False := fun k => by
  rw [Array.getD_eq_getD_getElem?] at h k
  cases hx : l[i]? with
  | none => rw [hx] at h; simp at h
  | some b => rw [hx] at h k; simp at h k; rw [h] at k; cases k
theorem all_doneG {ops : Array Oper} {l : Array Bool} (h : (List.range ops.size).all (fun i => match ops[i]? with | some o => o.after.all (fun e => !Region.binds .any e || decide (e.on < i)) | none => true) = true) (hr : Region.ready .any ops l = []) (hl : l.size = ops.size) : ∀ i, i < ops.size → l.getD i false = true := by
  intro i
  induction i using Nat.strongRecOn with
  | _ i ih =>
    intro hi
    cases hx : l.getD i false
    · exfalso
      rw [List.eq_nil_iff_forall_not_mem] at hr
      refine hr i (mem_ready.2 ⟨?_, ops[i], Array.getElem?_eq_getElem hi, fun e he hb => ?_⟩)
      · rw [Array.getD_eq_getD_getElem?] at hx ⊢
        rw [Array.getElem?_eq_getElem (by omega)] at hx ⊢
        simpa using hx
      · rw [List.all_eq_true] at h
        have h1 := h i (List.mem_range.2 hi)
        rw [Array.getElem?_eq_getElem hi] at h1
        simp only [Array.all_eq_true'] at h1
        have h2 := h1 e he
        rw [hb] at h2
        simp at h2
        exact ih e.on h2 (by omega)
    · rfl
theorem rep_no {n k : Nat} {p : Prop} (h : (Array.replicate n false).getD k false = true) : p := by rw [rep_getDG] at h; cases h
end Go.Proofs.YtmlaedpamobmhaaGreat
namespace Go.Proofs.YtmlaedpamobmhaaGreat
open Go.RowKit
set_option linter.unusedVariables false

theorem rows_round {n l : Nat} {P : Program} {row : String} {args : Array Value} {w : World} {R : Value → World → Prop} (h : Rows P row args w R) : RowsIn (Fence.wide.inRound l) n P row args w R :=
  fun c cs _ => let ⟨v, w', r, s⟩ := h c cs; ⟨v, w', r, stepsIn_wide.2 s⟩
theorem oper_round {n l : Nat} {P : Program} {o : Oper} {a : Act} {w : World} {K : Act → World → Prop} {Q : Exit → Act → World → Prop} (hd : ∀ c, o.op ≠ .defer c) (h : o.wp P a w K Q) : o.wpIn (Fence.wide.inRound l) n P a w K Q := by
  refine ⟨fun f _ => trivial, ?_⟩
  unfold Oper.wp at h
  rw [show (Fence.wide.inRound l).round = some l from rfl, Oper.semAt_some l _ _ hd]
  generalize (execOp a.eval o).run P w = r at *
  cases r with
  | ok x w' =>
    cases x <;> simp only [Oper.upon, Oper.uponIn] at h ⊢ <;> first
      | exact h
      | exact ⟨fun e => (by cases e), CallsIn.inRound l (callsIn_wide.2 h)⟩
      | exact ⟨fun e => (by cases e), rows_round h⟩
  | halt x w' => cases x <;> simp only [Oper.upon, Oper.uponIn] at h ⊢ <;> exact h
def noDefer (ops : Array Oper) : Bool := ops.all fun o => match o.op with | .defer _ => false | _ => true
theorem noDefer_at {ops : Array Oper} (h : noDefer ops = true) {i : Nat} {o : Oper} (ho : ops[i]? = some o) : ∀ c, o.op ≠ .defer c := by
  intro c hc
  unfold noDefer at h
  rw [Array.all_eq_true'] at h
  have := h o (Array.mem_of_getElem? ho)
  rw [hc] at this
  cases this
theorem op_round {n l : Nat} {P : Program} {ops : Array Oper} {Q : Exit → Act → World → Prop} (hd : noDefer ops = true) (hL : ¬ LetsOut Q) {i : Nat} {K : Act → World → Prop} {a : Act} {w : World} (h : wpOp P ops Q i K a w) : wpOpIn (Fence.wide.inRound l) n P ops Q i K a w := by
  unfold wpOp at h
  unfold wpOpIn
  split
  · rename_i ho; simp only [ho] at h; exact h
  · rename_i o ho
    simp only [ho] at h
    split
    · rename_i hw
      simp only [hw, if_true] at h
      rcases h with h | h
      · exact oper_round (noDefer_at hd ho) h
      · exact absurd h.2 hL
    · rename_i hw
      simp only [hw] at h
      exact ⟨fun _ _ => trivial, h⟩
theorem any_round {n l : Nat} {P : Program} {md : Region.Mode} {ops : Array Oper} {Q : Exit → Act → World → Prop} (hd : noDefer ops = true) (hL : ¬ LetsOut Q) :
    ∀ (fuel : Nat) (li : Array Bool) (a : Act) (w : World), wpAny P md ops Q fuel li a w → wpAnyIn (Fence.wide.inRound l) n P md ops Q fuel li a w
  | 0, _, _, _, h => h
  | fuel + 1, li, a, w, h => ⟨h.1, fun i hi => wpOpIn_mono (fun a' w' h' => any_round hd hL fuel _ a' w' h') (op_round hd hL (h.2 i hi))⟩
/-- a region that draws, in a round: by the rules for one outside. -/
theorem region_round {n l id : Nat} {P : Program} {ops : Array Oper} {Q : Exit → Act → World → Prop} {a : Act} {w : World} (hm : P.follows .mixedOrders = true) (hd : noDefer ops = true) (hL : ¬ LetsOut Q)
    (h : wpAny P .any ops Q ops.size (Array.replicate ops.size false) a w.drew) : (Code.region id ops true).wpIn (Fence.wide.inRound l) n P Q a w :=
  wpIn_region_any hm (any_round hd hL _ _ _ _ h)
theorem region_round_inv {n l id : Nat} {P : Program} {ops : Array Oper} {Q : Exit → Act → World → Prop} {I : Array Bool → Act → World → Prop} {a : Act} {w : World} (hm : P.follows .mixedOrders = true) (hd : noDefer ops = true) (hL : ¬ LetsOut Q)
    (h0 : I (Array.replicate ops.size false) a w.drew)
    (hs : ∀ l a w, I l a w → ∀ i ∈ Region.ready .any ops l, wpOp P ops Q i (I (l.setIfInBounds i true)) a w)
    (he : ∀ l a w, I l a w → Region.ready .any ops l = [] → Q .normal a w) : (Code.region id ops true).wpIn (Fence.wide.inRound l) n P Q a w :=
  region_round hm hd hL (wpAny_inv hs he ops.size _ a _ (by rw [undone_replicate]; exact Nat.le_refl _) h0)
end Go.Proofs.YtmlaedpamobmhaaGreat
namespace Go.Proofs.YtmlaedpamobmhaaGreat
open Go.RowKit Go.Maps
set_option linter.unusedVariables false

/-- A: the append; the store stands behind it. P: what each operation ahead of it leaves in its slot. Y: what is said of what the append hands back. Z: what is said behind the store. -/
def RS (ops : Array Oper) (F : (Nat → Value) → Act) (P : Nat → World → Value → Prop) (n A : Nat) (w0 : World) (Y : World → Value → Prop) (Z : World → Prop) (l : Array Bool) (a : Act) (u : World) : Prop :=
  ∃ vs : Nat → Value, a = F vs ∧ l.size = n ∧ ClosedG ops l ∧ (l.getD A false = false → Below w0.heap.size w0 u ∧ ∀ k, l.getD k false = true → P k u (vs k)) ∧ (l.getD A false = true → l.getD (A + 1) false = false → Y u (vs A)) ∧ (l.getD (A + 1) false = true → Z u)
theorem RS.start {ops : Array Oper} {F : (Nat → Value) → Act} {P : Nat → World → Value → Prop} {n A : Nat} {w0 : World} {Y : World → Value → Prop} {Z : World → Prop} {a : Act} (vs : Nat → Value) (ha : a = F vs) : RS ops F P n A w0 Y Z (Array.replicate n false) a w0.drew :=
  ⟨vs, ha, by simp, ClosedG.start _ _, fun _ => ⟨(Below.refl _ _).drew, fun k h => rep_no h⟩, fun h => rep_no h, fun h => rep_no h⟩
theorem RS.step {ops : Array Oper} {F : (Nat → Value) → Act} {P : Nat → World → Value → Prop} {n A : Nat} {w0 u u' : World} {Y : World → Value → Prop} {Z : World → Prop} {l : Array Bool} {vs : Nat → Value} (i : Nat) (v : Value) {a : Act}
    (hP : ∀ k u u' v, P k u v → Below u.heap.size u u' → P k u' v) (hi : i ∈ Region.ready .any ops l) (hno : ops.size = n) (hA : l.getD A false = false) (hA1 : l.getD (A + 1) false = false) (hiA : i < A) (hl : l.size = n) (hcl : ClosedG ops l)
    (hf : l.getD A false = false → Below w0.heap.size w0 u ∧ ∀ k, l.getD k false = true → P k u (vs k)) (hm : Below u.heap.size u u') (hv : P i u' v) (ha : a = F (fun k => if k = i then v else vs k)) : RS ops F P n A w0 Y Z (l.setIfInBounds i true) a u' := by
  refine ⟨fun k => if k = i then v else vs k, ha, by simp [hl], hcl.step hi (by omega), fun _ => ⟨bel_next (hf hA).1 hm, fun k hk => ?_⟩, fun h => ?_, fun h => ?_⟩
  · by_cases hki : k = i
    · have hv2 : P k u' v := by rw [hki]; exact hv
      exact Eq.mpr (congrArg (fun z => P k u' z) (if_pos hki)) hv2
    · rw [getD_set_ne false (fun e => hki e.symm)] at hk
      exact Eq.mpr (congrArg (fun z => P k u' z) (if_neg hki)) (hP k u u' _ ((hf hA).2 k hk) hm)
  · rw [getD_set_ne false (by omega), hA] at h; cases h
  · rw [getD_set_ne false (by omega), hA1] at h; cases h
theorem RS.last {ops : Array Oper} {F : (Nat → Value) → Act} {P : Nat → World → Value → Prop} {n A : Nat} {w0 u' : World} {Y : World → Value → Prop} {Z : World → Prop} {l : Array Bool} {vs : Nat → Value} (v : Value) {a : Act}
    (hi : A ∈ Region.ready .any ops l) (hno : ops.size = n) (hAn : A < n) (hA1 : l.getD (A + 1) false = false) (hl : l.size = n) (hcl : ClosedG ops l) (hv : Y u' v) (ha : a = F (fun k => if k = A then v else vs k)) : RS ops F P n A w0 Y Z (l.setIfInBounds A true) a u' := by
  refine ⟨fun k => if k = A then v else vs k, ha, by simp [hl], hcl.step hi (by omega), fun h => ?_, fun _ _ => Eq.mpr (congrArg (fun z => Y u' z) (if_pos rfl)) hv, fun h => ?_⟩
  · rw [getD_set_eqG false (by omega)] at h; cases h
  · rw [getD_set_ne false (by omega), hA1] at h; cases h
theorem RS.put {ops : Array Oper} {F : (Nat → Value) → Act} {P : Nat → World → Value → Prop} {n A : Nat} {w0 u' : World} {Y : World → Value → Prop} {Z : World → Prop} {l : Array Bool} {vs : Nat → Value} {a : Act}
    (hi : A + 1 ∈ Region.ready .any ops l) (hno : ops.size = n) (hA : l.getD A false = true) (hAn : A + 1 < n) (hl : l.size = n) (hcl : ClosedG ops l) (hz : Z u') (ha : a = F vs) : RS ops F P n A w0 Y Z (l.setIfInBounds (A + 1) true) a u' := by
  refine ⟨vs, ha, by simp [hl], hcl.step hi (by omega), fun h => ?_, fun _ h => ?_, fun _ => hz⟩
  · rw [getD_set_ne false (by omega), hA] at h; cases h
  · rw [getD_set_eqG false (by omega)] at h; cases h
theorem region_rs {nn l id : Nat} {P : Program} {ops : Array Oper} {Q : Exit → Act → World → Prop} (F : (Nat → Value) → Act) (K : Nat → World → Value → Prop) (n A : Nat) (w0 : World) (Y : World → Value → Prop) (Z : World → Prop) {a : Act} (hm : P.follows .mixedOrders = true) (hd : noDefer ops = true) (hL : ¬ LetsOut Q)
    (h0 : RS ops F K n A w0 Y Z (Array.replicate ops.size false) a w0.drew)
    (hs : ∀ l a w, RS ops F K n A w0 Y Z l a w → ∀ i ∈ Region.ready .any ops l, wpOp P ops Q i (RS ops F K n A w0 Y Z (l.setIfInBounds i true)) a w)
    (he : ∀ l a w, RS ops F K n A w0 Y Z l a w → Region.ready .any ops l = [] → Q .normal a w) : (Code.region id ops true).wpIn (Fence.wide.inRound l) nn P Q a w0 := region_round_inv (I := RS ops F K n A w0 Y Z) hm hd hL h0 hs he
/-- a look-up in a map of the call's own, as a step of such a region. -/
theorem step_lookup {H : Type} {P : Program} {w : World} {ops : Array Oper} {o : Oper} {a : Act} {K : Act → World → Prop} {Q : Exit → Act → World → Prop} {E : Prop} (hgd : o.guard = none) (m x : Operand) (t : TypeId) (hop : o.op = Op.lookup t m x false)
    (k e : TypeId) (q : IntKind) (Ky : Keyed P k) (ht : P.underlying t = some (.map k e)) (he : P.underlying e = some (.int q)) (hz : (zeroValue e).run P w = .ok (.int q 0) w) (b n : Nat) (D : DataW H)
    (hm : a.eval m = .map (some b)) (hown : w.ownsMap P k (plainElem P e) b n D) (key : Value) (kl : Lit) (hx : a.eval x = key) (hkey : keyOf P k key = some kl)
    (h : ∀ c : Int, D.atKey kl (.lit (.int q 0)) = .lit (.int q c) → K (a.put o.dst (.int q c)) w) :
    if Region.wanted o (yielded ops a.tmps) = true then Oper.wp P o a w K Q else E := by
  have hw : Region.wanted o (yielded ops a.tmps) = true := by simp [Region.wanted, hgd]
  rw [if_pos hw]
  obtain ⟨c, hrun, hat, hwc⟩ := hown.lookup_int Ky ht he hz hkey
  unfold Oper.wp
  simp [execOp, hop, hm, hx, hrun, Result.andThen]
  exact h c hat
end Go.Proofs.YtmlaedpamobmhaaGreat
