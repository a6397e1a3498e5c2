/-
  A region that draws its order and ends in an append, by one invariant; nothing is read from a reader.
-/
import Derived.Test.YtioecpiogpjlaaaInv
import Derived.Test.YtioecpiogpjlaaaMonoI
namespace Go.Proofs.Ytioecpiogpjlaaa
open Go.RowKit
set_option linter.unusedVariables false

theorem ready_depG {ops : Array Oper} {l : Array Bool} {i : Nat} {o : Oper} (hi : i ∈ Region.ready .any ops l) (ho : ops[i]? = some o) (k : Nat) (hk : o.after.any (fun e => Region.binds .any e && e.on == k) = true) : l.getD k false = true := by
  obtain ⟨_, o', ho', ha⟩ := mem_ready.1 hi
  rw [ho] at ho'
  obtain rfl := Option.some.inj ho'
  rw [Array.any_eq_true'] at hk
  obtain ⟨e, he, hh⟩ := hk
  simp only [Bool.and_eq_true, beq_iff_eq] at hh
  rw [← hh.2]
  exact ha e he hh.1
theorem getD_set_eqG {l : Array Bool} {i : Nat} (d : Bool) (h : i < l.size) : (l.setIfInBounds i true).getD i d = true := by
  rw [Array.getD_eq_getD_getElem?, Array.getElem?_setIfInBounds_self_of_lt h]; rfl
theorem rep_getDG (n k : Nat) : (Array.replicate n false).getD k false = false := by
  rw [Array.getD_eq_getD_getElem?, Array.getElem?_replicate]; split <;> rfl
def ClosedG (ops : Array Oper) (l : Array Bool) : Prop := ∀ i o, ops[i]? = some o → l.getD i false = true → ∀ e ∈ o.after, Region.binds .any e = true → l.getD e.on false = true
theorem ClosedG.start (ops : Array Oper) (n : Nat) : ClosedG ops (Array.replicate n false) := fun i o _ h => by rw [rep_getDG] at h; cases h
theorem ClosedG.step {ops : Array Oper} {l : Array Bool} {i : Nat} (h : ClosedG ops l) (hi : i ∈ Region.ready .any ops l) (hl : l.size = ops.size) : ClosedG ops (l.setIfInBounds i true) := by
  intro j o ho hj e he hb
  obtain ⟨_, o', ho', ha⟩ := mem_ready.1 hi
  have hil : i < l.size := by rw [hl]; exact (Array.getElem?_eq_some_iff.1 ho').1
  have hd : l.getD e.on false = true := by
    by_cases hji : j = i
    · subst hji
      rw [ho] at ho'
      obtain rfl := Option.some.inj ho'
      exact ha e he hb
    · rw [getD_set_ne false (fun e => hji e.symm)] at hj
      exact h j o ho hj e he hb
  by_cases hei : e.on = i
  · rw [hei, getD_set_eqG false hil]
  · rw [getD_set_ne false (fun e => hei e.symm)]; exact hd
theorem ClosedG.dep {ops : Array Oper} {l : Array Bool} {i : Nat} {o : Oper} (h : ClosedG ops l) (ho : ops[i]? = some o) (hd : l.getD i false = true) (k : Nat) (hk : o.after.any (fun e => Region.binds .any e && e.on == k) = true) : l.getD k false = true := by
  rw [Array.any_eq_true'] at hk
  obtain ⟨e, he, hh⟩ := hk
  simp only [Bool.and_eq_true, beq_iff_eq] at hh
  rw [← hh.2]
  exact h i o ho hd e he hh.1
theorem not_doneG {l : Array Bool} {i : Nat} (h : l.getD i true = false) : l.getD i false = true → False := fun k => by
  rw [Array.getD_eq_getD_getElem?] at h k
  cases hx : l[i]? with
  | none => rw [hx] at h; simp at h
  | some b => rw [hx] at h k; simp at h k; rw [h] at k; cases k
theorem all_doneG {ops : Array Oper} {l : Array Bool} (h : (List.range ops.size).all (fun i => match ops[i]? with | some o => o.after.all (fun e => !Region.binds .any e || decide (e.on < i)) | none => true) = true) (hr : Region.ready .any ops l = []) (hl : l.size = ops.size) : ∀ i, i < ops.size → l.getD i false = true := by
  intro i
  induction i using Nat.strongRecOn with
  | _ i ih =>
    intro hi
    cases hx : l.getD i false
    · exfalso
      rw [List.eq_nil_iff_forall_not_mem] at hr
      refine hr i (mem_ready.2 ⟨?_, ops[i], Array.getElem?_eq_getElem hi, fun e he hb => ?_⟩)
      · rw [Array.getD_eq_getD_getElem?] at hx ⊢
        rw [Array.getElem?_eq_getElem (by omega)] at hx ⊢
        simpa using hx
      · rw [List.all_eq_true] at h
        have h1 := h i (List.mem_range.2 hi)
        rw [Array.getElem?_eq_getElem hi] at h1
        simp only [Array.all_eq_true'] at h1
        have h2 := h1 e he
        rw [hb] at h2
        simp at h2
        exact ih e.on h2 (by omega)
    · rfl
theorem rep_no {n k : Nat} {p : Prop} (h : (Array.replicate n false).getD k false = true) : p := by rw [rep_getDG] at h; cases h
/-- A: the append. P: what each operation ahead of it leaves in its slot. Y: what is said of what the append hands back. -/
def RG (ops : Array Oper) (F : (Nat → Value) → Act) (P : Nat → World → Value → Prop) (n A : Nat) (w0 : World) (Y : World → Value → Prop) (v0 : Value) (l : Array Bool) (a : Act) (u : World) : Prop :=
  ∃ vs : Nat → Value, a = F vs ∧ (l.getD (A + 1) false = false → vs (A + 1) = v0) ∧ l.size = n ∧ ClosedG ops l ∧ (l.getD A false = false → Below w0.heap.size w0 u ∧ ∀ k, l.getD k false = true → P k u (vs k)) ∧ (l.getD A false = true → Y u (vs A)) ∧ (l.getD (A + 1) false = true → Y u (vs (A + 1)))
theorem RG.start {ops : Array Oper} {F : (Nat → Value) → Act} {P : Nat → World → Value → Prop} {n A : Nat} {w0 : World} {Y : World → Value → Prop} {v0 : Value} {a : Act} (vs : Nat → Value) (ha : a = F vs) (h0 : vs (A + 1) = v0) : RG ops F P n A w0 Y v0 (Array.replicate n false) a w0.drew :=
  ⟨vs, ha, fun _ => h0, by simp, ClosedG.start _ _, fun _ => ⟨(Below.refl _ _).drew, fun k h => rep_no h⟩, fun h => rep_no h, fun h => rep_no h⟩
theorem RG.step {ops : Array Oper} {F : (Nat → Value) → Act} {P : Nat → World → Value → Prop} {n A : Nat} {w0 u u' : World} {Y : World → Value → Prop} {v0 : Value} {l : Array Bool} {vs : Nat → Value} (i : Nat) (v : Value) {a : Act}
    (hP : ∀ k u u' v, P k u v → Below u.heap.size u u' → P k u' v) (hi : i ∈ Region.ready .any ops l) (hno : ops.size = n) (hA : l.getD A false = false) (hA1 : l.getD (A + 1) false = false) (hiA : i < A) (hl : l.size = n) (hcl : ClosedG ops l)
    (h0 : l.getD (A + 1) false = false → vs (A + 1) = v0) (hf : l.getD A false = false → Below w0.heap.size w0 u ∧ ∀ k, l.getD k false = true → P k u (vs k)) (hm : Below u.heap.size u u') (hv : P i u' v) (ha : a = F (fun k => if k = i then v else vs k)) : RG ops F P n A w0 Y v0 (l.setIfInBounds i true) a u' := by
  refine ⟨fun k => if k = i then v else vs k, ha, fun _ => (if_neg (by omega)).trans (h0 hA1), by simp [hl], hcl.step hi (by omega), fun _ => ⟨bel_next (hf hA).1 hm, fun k hk => ?_⟩, fun h => ?_, fun h => ?_⟩
  · by_cases hki : k = i
    · have hv2 : P k u' v := by rw [hki]; exact hv
      exact Eq.mpr (congrArg (fun z => P k u' z) (if_pos hki)) hv2
    · rw [getD_set_ne false (fun e => hki e.symm)] at hk
      exact Eq.mpr (congrArg (fun z => P k u' z) (if_neg hki)) (hP k u u' _ ((hf hA).2 k hk) hm)
  · rw [getD_set_ne false (by omega), hA] at h; cases h
  · rw [getD_set_ne false (by omega), hA1] at h; cases h
theorem RG.last {ops : Array Oper} {F : (Nat → Value) → Act} {P : Nat → World → Value → Prop} {n A : Nat} {w0 u' : World} {Y : World → Value → Prop} {v0 : Value} {l : Array Bool} {vs : Nat → Value} (v : Value) {a : Act}
    (hi : A ∈ Region.ready .any ops l) (hno : ops.size = n) (hAn : A < n) (hA1 : l.getD (A + 1) false = false) (hl : l.size = n) (hcl : ClosedG ops l) (h0 : l.getD (A + 1) false = false → vs (A + 1) = v0) (hv : Y u' v) (ha : a = F (fun k => if k = A then v else vs k)) : RG ops F P n A w0 Y v0 (l.setIfInBounds A true) a u' := by
  refine ⟨fun k => if k = A then v else vs k, ha, fun _ => (if_neg (by omega)).trans (h0 hA1), by simp [hl], hcl.step hi (by omega), fun h => ?_, fun _ => Eq.mpr (congrArg (fun z => Y u' z) (if_pos rfl)) hv, fun h => ?_⟩
  · rw [getD_set_eqG false (by omega)] at h; cases h
  · rw [getD_set_ne false (by omega), hA1] at h; cases h
theorem RG.asg {ops : Array Oper} {F : (Nat → Value) → Act} {P : Nat → World → Value → Prop} {n A : Nat} {w0 u : World} {Y : World → Value → Prop} {v0 : Value} {l : Array Bool} {vs : Nat → Value} {a : Act}
    (hi : A + 1 ∈ Region.ready .any ops l) (hno : ops.size = n) (hA : l.getD A false = true) (hAn : A + 1 < n) (hl : l.size = n) (hcl : ClosedG ops l) (hy : l.getD A false = true → Y u (vs A)) (ha : a = F (fun k => if k = A + 1 then vs A else vs k)) : RG ops F P n A w0 Y v0 (l.setIfInBounds (A + 1) true) a u := by
  refine ⟨fun k => if k = A + 1 then vs A else vs k, ha, fun h => (by rw [getD_set_eqG false (by omega)] at h; cases h), by simp [hl], hcl.step hi (by omega), fun h => ?_, fun _ => Eq.mpr (congrArg (fun z => Y u z) (if_neg (by omega))) (hy hA), fun _ => Eq.mpr (congrArg (fun z => Y u z) (if_pos rfl)) (hy hA)⟩
  rw [getD_set_ne false (by omega), hA] at h; cases h
theorem wp_region_rg {P : Program} {id : Nat} {ops : Array Oper} {Q : Exit → Act → World → Prop} (F : (Nat → Value) → Act) (K : Nat → World → Value → Prop) (n A : Nat) (w0 : World) (Y : World → Value → Prop) (v0 : Value) {a : Act} (hm : P.follows .mixedOrders = true)
    (h0 : RG ops F K n A w0 Y v0 (Array.replicate ops.size false) a w0.drew)
    (hs : ∀ l a w, RG ops F K n A w0 Y v0 l a w → ∀ i ∈ Region.ready .any ops l, wpOp P ops Q i (RG ops F K n A w0 Y v0 (l.setIfInBounds i true)) a w)
    (he : ∀ l a w, RG ops F K n A w0 Y v0 l a w → Region.ready .any ops l = [] → Q .normal a w) : (Code.region id ops true).wp P Q a w0 := wp_region_inv (I := RG ops F K n A w0 Y v0) hm h0 hs he
end Go.Proofs.Ytioecpiogpjlaaa
