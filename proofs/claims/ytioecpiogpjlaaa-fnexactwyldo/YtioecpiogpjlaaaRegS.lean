/-
  A region within a round that draws its order and ends in an append and a store, by one invariant.
-/
import Derived.Test.YtioecpiogpjlaaaRegG
import Derived.Test.YtioecpiogpjlaaaRoundR
import Derived.Deep.AppendLies
import Derived.Maps.OwnOps
namespace Go.Proofs.Ytioecpiogpjlaaa
open Go.RowKit Go.Maps
set_option linter.unusedVariables false

/-- A: the append; the store stands behind it. P: what each operation ahead of it leaves in its slot. Y: what is said of what the append hands back. Z: what is said behind the store. -/
def RS (ops : Array Oper) (F : (Nat → Value) → Act) (P : Nat → World → Value → Prop) (n A : Nat) (w0 : World) (Y : World → Value → Prop) (Z : World → Prop) (l : Array Bool) (a : Act) (u : World) : Prop :=
  ∃ vs : Nat → Value, a = F vs ∧ l.size = n ∧ ClosedG ops l ∧ (l.getD A false = false → Below w0.heap.size w0 u ∧ ∀ k, l.getD k false = true → P k u (vs k)) ∧ (l.getD A false = true → l.getD (A + 1) false = false → Y u (vs A)) ∧ (l.getD (A + 1) false = true → Z u)
theorem RS.start {ops : Array Oper} {F : (Nat → Value) → Act} {P : Nat → World → Value → Prop} {n A : Nat} {w0 : World} {Y : World → Value → Prop} {Z : World → Prop} {a : Act} (vs : Nat → Value) (ha : a = F vs) : RS ops F P n A w0 Y Z (Array.replicate n false) a w0.drew :=
  ⟨vs, ha, by simp, ClosedG.start _ _, fun _ => ⟨(Below.refl _ _).drew, fun k h => rep_no h⟩, fun h => rep_no h, fun h => rep_no h⟩
theorem RS.step {ops : Array Oper} {F : (Nat → Value) → Act} {P : Nat → World → Value → Prop} {n A : Nat} {w0 u u' : World} {Y : World → Value → Prop} {Z : World → Prop} {l : Array Bool} {vs : Nat → Value} (i : Nat) (v : Value) {a : Act}
    (hP : ∀ k u u' v, P k u v → Below u.heap.size u u' → P k u' v) (hi : i ∈ Region.ready .any ops l) (hno : ops.size = n) (hA : l.getD A false = false) (hA1 : l.getD (A + 1) false = false) (hiA : i < A) (hl : l.size = n) (hcl : ClosedG ops l)
    (hf : l.getD A false = false → Below w0.heap.size w0 u ∧ ∀ k, l.getD k false = true → P k u (vs k)) (hm : Below u.heap.size u u') (hv : P i u' v) (ha : a = F (fun k => if k = i then v else vs k)) : RS ops F P n A w0 Y Z (l.setIfInBounds i true) a u' := by
  refine ⟨fun k => if k = i then v else vs k, ha, by simp [hl], hcl.step hi (by omega), fun _ => ⟨bel_next (hf hA).1 hm, fun k hk => ?_⟩, fun h => ?_, fun h => ?_⟩
  · by_cases hki : k = i
    · have hv2 : P k u' v := by rw [hki]; exact hv
      exact Eq.mpr (congrArg (fun z => P k u' z) (if_pos hki)) hv2
    · rw [getD_set_ne false (fun e => hki e.symm)] at hk
      exact Eq.mpr (congrArg (fun z => P k u' z) (if_neg hki)) (hP k u u' _ ((hf hA).2 k hk) hm)
  · rw [getD_set_ne false (by omega), hA] at h; cases h
  · rw [getD_set_ne false (by omega), hA1] at h; cases h
theorem RS.last {ops : Array Oper} {F : (Nat → Value) → Act} {P : Nat → World → Value → Prop} {n A : Nat} {w0 u' : World} {Y : World → Value → Prop} {Z : World → Prop} {l : Array Bool} {vs : Nat → Value} (v : Value) {a : Act}
    (hi : A ∈ Region.ready .any ops l) (hno : ops.size = n) (hAn : A < n) (hA1 : l.getD (A + 1) false = false) (hl : l.size = n) (hcl : ClosedG ops l) (hv : Y u' v) (ha : a = F (fun k => if k = A then v else vs k)) : RS ops F P n A w0 Y Z (l.setIfInBounds A true) a u' := by
  refine ⟨fun k => if k = A then v else vs k, ha, by simp [hl], hcl.step hi (by omega), fun h => ?_, fun _ _ => Eq.mpr (congrArg (fun z => Y u' z) (if_pos rfl)) hv, fun h => ?_⟩
  · rw [getD_set_eqG false (by omega)] at h; cases h
  · rw [getD_set_ne false (by omega), hA1] at h; cases h
theorem RS.put {ops : Array Oper} {F : (Nat → Value) → Act} {P : Nat → World → Value → Prop} {n A : Nat} {w0 u' : World} {Y : World → Value → Prop} {Z : World → Prop} {l : Array Bool} {vs : Nat → Value} {a : Act}
    (hi : A + 1 ∈ Region.ready .any ops l) (hno : ops.size = n) (hA : l.getD A false = true) (hAn : A + 1 < n) (hl : l.size = n) (hcl : ClosedG ops l) (hz : Z u') (ha : a = F vs) : RS ops F P n A w0 Y Z (l.setIfInBounds (A + 1) true) a u' := by
  refine ⟨vs, ha, by simp [hl], hcl.step hi (by omega), fun h => ?_, fun _ h => ?_, fun _ => hz⟩
  · rw [getD_set_ne false (by omega), hA] at h; cases h
  · rw [getD_set_eqG false (by omega)] at h; cases h
theorem region_rs {nn l id : Nat} {P : Program} {ops : Array Oper} {Q : Exit → Act → World → Prop} (F : (Nat → Value) → Act) (K : Nat → World → Value → Prop) (n A : Nat) (w0 : World) (Y : World → Value → Prop) (Z : World → Prop) {a : Act} (hm : P.follows .mixedOrders = true) (hd : noDefer ops = true) (hL : ¬ LetsOut Q)
    (h0 : RS ops F K n A w0 Y Z (Array.replicate ops.size false) a w0.drew)
    (hs : ∀ l a w, RS ops F K n A w0 Y Z l a w → ∀ i ∈ Region.ready .any ops l, wpOp P ops Q i (RS ops F K n A w0 Y Z (l.setIfInBounds i true)) a w)
    (he : ∀ l a w, RS ops F K n A w0 Y Z l a w → Region.ready .any ops l = [] → Q .normal a w) : (Code.region id ops true).wpIn (Fence.wide.inRound l) nn P Q a w0 := region_round_inv (I := RS ops F K n A w0 Y Z) hm hd hL h0 hs he
/-- a look-up in a map of the call's own, as a step of such a region. -/
theorem step_lookup {H : Type} {P : Program} {w : World} {ops : Array Oper} {o : Oper} {a : Act} {K : Act → World → Prop} {Q : Exit → Act → World → Prop} {E : Prop} (hgd : o.guard = none) (m x : Operand) (t : TypeId) (hop : o.op = Op.lookup t m x false)
    (k e : TypeId) (q : IntKind) (Ky : Keyed P k) (ht : P.underlying t = some (.map k e)) (he : P.underlying e = some (.int q)) (hz : (zeroValue e).run P w = .ok (.int q 0) w) (b n : Nat) (D : DataW H)
    (hm : a.eval m = .map (some b)) (hown : w.ownsMap P k (plainElem P e) b n D) (key : Value) (kl : Lit) (hx : a.eval x = key) (hkey : keyOf P k key = some kl)
    (h : ∀ c : Int, D.atKey kl (.lit (.int q 0)) = .lit (.int q c) → K (a.put o.dst (.int q c)) w) :
    if Region.wanted o (yielded ops a.tmps) = true then Oper.wp P o a w K Q else E := by
  have hw : Region.wanted o (yielded ops a.tmps) = true := by simp [Region.wanted, hgd]
  rw [if_pos hw]
  obtain ⟨c, hrun, hat, hwc⟩ := hown.lookup_int Ky ht he hz hkey
  unfold Oper.wp
  simp [execOp, hop, hm, hx, hrun, Result.andThen]
  exact h c hat
end Go.Proofs.Ytioecpiogpjlaaa
