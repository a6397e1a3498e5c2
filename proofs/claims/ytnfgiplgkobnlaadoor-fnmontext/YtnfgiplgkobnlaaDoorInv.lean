/-
  A region that draws its order, by an invariant: what holds of the frame and the world whatever has been done so far.
-/
import Derived.Test.YtnfgiplgkobnlaaDoorRows
import Derived.WalkKit
import Derived.Orders
namespace Go.Proofs.YtnfgiplgkobnlaaDoor
open Go.RowKit

/-- how many operations are not yet done. -/
def undone (l : Array Bool) : Nat := (l.toList.filter (fun b => b == false)).length
theorem undone_list : ∀ (l : List Bool) (i : Nat), l[i]? = some false → ((l.set i true).filter (fun b => b == false)).length + 1 = (l.filter (fun b => b == false)).length
  | [], i, h => by simp at h
  | b :: r, 0, h => by
    simp at h
    subst h
    simp
  | b :: r, i + 1, h => by
    have ih := undone_list r i (by simpa using h)
    cases b <;> simp at ih ⊢ <;> omega
theorem undone_set {l : Array Bool} {i : Nat} (h : l[i]? = some false) : undone (l.setIfInBounds i true) + 1 = undone l := by
  unfold undone
  rw [Array.toList_setIfInBounds]
  exact undone_list _ _ (by simpa using h)
theorem undone_none_list : ∀ (l : List Bool), (l.filter (fun b => b == false)).length = 0 → ∀ i : Nat, l[i]? ≠ some false
  | [], _, i, h => by simp at h
  | b :: r, hl, 0, h => by
    simp at h
    subst h
    simp at hl
  | b :: r, hl, i + 1, h => by
    refine undone_none_list r ?_ i (by simpa using h)
    cases b <;> simp at hl ⊢
    exact hl
theorem getD_false {l : Array Bool} {i : Nat} (h : l.getD i true = false) : l[i]? = some false := by
  rw [Array.getD_eq_getD_getElem?] at h
  cases hx : l[i]? with
  | none => rw [hx] at h; simp at h
  | some b => rw [hx] at h; simp at h; rw [h]
theorem wpAny_inv {P : Program} {md : Region.Mode} {ops : Array Oper} {Q : Exit → Act → World → Prop} {I : Array Bool → Act → World → Prop}
    (hs : ∀ l a w, I l a w → ∀ i ∈ Region.ready md ops l, wpOp P ops Q i (I (l.setIfInBounds i true)) a w)
    (he : ∀ l a w, I l a w → Region.ready md ops l = [] → Q .normal a w) :
    ∀ (fuel : Nat) (l : Array Bool) (a : Act) (w : World), undone l ≤ fuel → I l a w → wpAny P md ops Q fuel l a w
  | 0, l, a, w, hf, hI => by
    have hr : Region.ready md ops l = [] := by
      rw [List.eq_nil_iff_forall_not_mem]
      intro i hi
      have h0 := getD_false (mem_ready.1 hi).1
      exact undone_none_list l.toList (by unfold undone at hf; omega) i (by simpa using h0)
    exact ⟨hr, he l a w hI hr⟩
  | fuel + 1, l, a, w, hf, hI => by
    refine ⟨fun hr => he l a w hI hr, fun i hi => ?_⟩
    have h0 := getD_false (mem_ready.1 hi).1
    have h1 := undone_set h0
    exact wpOp_mono (fun a' w' h => wpAny_inv hs he fuel _ a' w' (by omega) h) (hs l a w hI i hi)
theorem undone_replicate (n : Nat) : undone (Array.replicate n false) = n := by
  unfold undone; simp
/-- .. and so the region. -/
theorem wp_region_inv {P : Program} {id : Nat} {ops : Array Oper} {Q : Exit → Act → World → Prop} {I : Array Bool → Act → World → Prop} {a : Act} {w : World} (hm : P.follows .mixedOrders = true)
    (h0 : I (Array.replicate ops.size false) a w.drew)
    (hs : ∀ l a w, I l a w → ∀ i ∈ Region.ready .any ops l, wpOp P ops Q i (I (l.setIfInBounds i true)) a w)
    (he : ∀ l a w, I l a w → Region.ready .any ops l = [] → Q .normal a w) : (Code.region id ops true).wp P Q a w :=
  wp_region_any hm (wpAny_inv hs he ops.size _ a _ (by rw [undone_replicate]; exact Nat.le_refl _) h0)
end Go.Proofs.YtnfgiplgkobnlaaDoor
