/-
  keysInOrder: a sum's monomials, the least first.
  slices.Backward of monomials as an iterator that may be stopped.
  A region that draws its order, by an invariant: what holds of the frame and the world whatever has been done so far.
-/
import Derived.Test.YtmlaedpamobmhaaGreatPak
import Derived.Test.YtmlaedpamobmhaaGreatPad
import Derived.RangeFuncNested
import Derived.RangeFuncLeaves
import Derived.Test.YtmlaedpamobmhaaGreatRows
import Derived.WalkKit
import Derived.Orders
namespace Go.Proofs.YtmlaedpamobmhaaGreat
open Go.RowKit Go.Maps Go.Sort Go.Shelf
set_option linter.unusedVariables false

theorem len_of_sub {α : Type} [DecidableEq α] : ∀ (l r : List α), l.Nodup → (∀ x ∈ l, x ∈ r) → l.length ≤ r.length
  | [], _, _, _ => Nat.zero_le _
  | x :: l, r, hn, hs => by
    rw [List.nodup_cons] at hn
    have hx : x ∈ r := hs x (List.mem_cons_self ..)
    have := len_of_sub l (r.erase x) hn.2 (fun y hy => (List.mem_erase_of_ne (fun e : y = x => hn.1 (e ▸ hy))).2 (hs y (List.mem_cons_of_mem _ hy)))
    rw [List.length_erase_of_mem hx] at this
    have : 0 < r.length := List.length_pos_of_mem hx
    simp only [List.length_cons]
    omega
theorem size_max {w : World} {b n : Nat} {D : DataW Unit} (h : w.ownsMap Tryz.prog 52 (plainElem Tryz.prog 121) b n D) : Maps.size D ≤ n := by
  obtain ⟨es, clock, h1, F, h3, rfl⟩ := h
  rw [size_eq, length_read]
  exact h3
theorem size_le {w : World} {b n : Nat} {D : DataW Unit} (h : w.ownsMap Tryz.prog 52 (plainElem Tryz.prog 121) b n D) (ss : List M) (hk : ∀ kl, Maps.has D kl = true → ∃ m ∈ ss, kl = keyM m) : Maps.size D ≤ ss.length := by
  have ht := h.tidy lawM
  obtain ⟨es, clock, h1, F, h3, hD⟩ := h
  obtain ⟨L, hL, hp⟩ := ht
  have e : L = (es.toList.map (WideElems.rg Tryz.prog 52 (plainElem Tryz.prog 121))).foldr DataW.insert [] := by rw [hL] at hD; exact DataW.map.inj hD
  have hkeys : ∀ p ∈ L, ∃ m ∈ ss, p.1 = keyM m := fun p hpL => by
    refine hk p.1 ?_
    rw [hL, has_eq, List.any_eq_true]
    refine ⟨p, hpL, ?_⟩
    have hmem : p ∈ es.toList.map (WideElems.rg Tryz.prog 52 (plainElem Tryz.prog 121)) := by
      rw [e] at hpL
      exact (WideShapes.sorted_perm _).mem_iff.1 hpL
    obtain ⟨v, hv⟩ := fit_keys F p hmem
    exact WideAt.sameKey_self (lawM.key hv)
  rw [hL, size_eq]
  letI : DecidableEq Lit := fun a b => Classical.propDecidable (a = b)
  have := len_of_sub (L.map (·.1)) (ss.map keyM) (by rw [List.Nodup, List.pairwise_map]; exact hp) (fun x hx => by
    obtain ⟨p, hpL, rfl⟩ := List.mem_map.1 hx
    obtain ⟨m, hm, he⟩ := hkeys p hpL
    rw [he]
    exact List.mem_map_of_mem hm)
  simpa using this
theorem strict_of {l : List OM} (h : l.Pairwise (fun a b => rkD a.1 ≤ rkD b.1)) (hn : (l.map (·.1)).Nodup) : l.Pairwise (fun a b => rkD a.1 < rkD b.1) := by
  rw [List.Nodup, List.pairwise_map] at hn
  refine (h.and hn).imp ?_
  rintro a b ⟨h1, h2⟩
  rcases Int.lt_or_eq_of_le h1 with h | h
  · exact h
  · exact absurd (rkD_inj a.2 b.2 h) h2
set_option maxHeartbeats 1000000 in
theorem keysOrd (hsort : SortsM) (w : World) (b n : Nat) (D : DataW Unit) (hown : w.ownsMap Tryz.prog 52 (plainElem Tryz.prog 121) b n D) (hks : ∀ kl, Maps.has D kl = true → ∃ m : M, m.ok = true ∧ kl = keyM m) (hn : n ≤ 1000000) :
    Calls Tryz.prog 127 #[.map (some b), .func (.func 88) #[] #[]] w fun e w' => ∃ (p : Option Addr) (cap : Nat) (dO : List OM), e = .returned (.slice p dO.length cap) ∧ dO.Pairwise (fun a b => rkD a.1 < rkD b.1) ∧ (∀ m : M, m.ok = true → (m ∈ dO.map (·.1) ↔ Maps.has D (keyM m) = true)) ∧ dO.length = Maps.size D ∧ RowV w' p (dO.map (·.1)) ∧ (∀ k, p = some ⟨k, 0, none⟩ → w.heap.size ≤ k ∧ k < w'.heap.size) ∧ Below w.heap.size w w' := by
  have hN : Maps.size D ≤ 1000000 := Nat.le_trans (size_max hown) hn
  obtain ⟨W1, hW1⟩ : ∃ W1, w.alloc (.cells #[.func (.func 88) #[] #[]] 96) = W1 := ⟨_, rfl⟩
  obtain ⟨W2, hW2⟩ : ∃ W2, W1.alloc (.cells #[.map (some b)] 122) = W2 := ⟨_, rfl⟩
  have hs1 : W1.heap.size = w.heap.size + 1 := by rw [← hW1]; simp
  have hs2 : W2.heap.size = w.heap.size + 2 := by rw [← hW2]; simp [hs1]
  have hb1 : Below w.heap.size w W1 := by rw [← hW1]; exact (Below.refl _ w).alloc (Nat.le_refl _) _
  have hb2 : Below w.heap.size w W2 := by rw [← hW2]; exact hb1.alloc hb1.size _
  have hr1 : W1.cell? ⟨w.heap.size, 0, none⟩ = some (.func (.func 88) #[] #[]) := by rw [← hW1]; exact (Boxed.new w _ _).cell
  have hr2 : W2.cell? ⟨w.heap.size, 0, none⟩ = some (.func (.func 88) #[] #[]) := by rw [← hW2]; exact (World.cell?_of_block (w := W1) (a := ⟨w.heap.size, 0, none⟩) (Below.heap_alloc W1 _ w.heap.size (by omega))).trans hr1
  have hm2 : W2.cell? ⟨w.heap.size + 1, 0, none⟩ = some (.map (some b)) := by rw [← hs1, ← hW2]; exact (Boxed.new W1 _ _).cell
  have hown2 : W2.ownsMap Tryz.prog 52 (plainElem Tryz.prog 121) b n D := by rw [← hW2, ← hW1]; exact (hown.alloc _).alloc _
  have hseq : SeqGives Fence.wide 5 Tryz.prog 169 #[.pointer (some ⟨w.heap.size + 1, 0, none⟩)] enM (KeysOf D) (Maps.size D) W2 := keysGives trivial rfl (by omega) _ b n D W2 (by omega) hks hm2 hown2
  have hS := sortedM hsort 169 _ (enters_of Tryz.func169 (by kernel_rfl) rfl) (KeysOf D) _ hN (fun ss h => h.2.1) (fun ss h => h.2.2.2) W2 hseq w.heap.size (by omega) hr2
  have hK := (callsIn_wide (n := 5)).1 (keysM (F := Fence.wide) (n := 5) trivial rfl (some b) W1)
  rw [hs1] at hK
  clear hseq hm2 hr2 hr1
  go_enter Tryz.func127, Tryz.ntmps127
  go_wp2_with (first
    | (go_at_call 155; refine hK.mono ?_; rintro e W ⟨rfl, hw⟩; obtain rfl := hw.trans hW2; clear hw)
    | (go_at_call 154; refine hS.mono ?_; rintro e W3 ⟨p, cap, dO, ss, rfl, hS3, hp3, hs3, hv3, hp4, hb3⟩))
  go_ret
  have hnd : (dO.map (·.1)).Nodup := hp3.symm.nodup hS3.1
  have hmem : ∀ m : M, m.ok = true → (m ∈ dO.map (·.1) ↔ Maps.has D (keyM m) = true) := fun m hm => by rw [hp3.mem_iff]; exact hS3.2.2.1 m hm
  refine ⟨p, cap, dO, rfl, strict_of hs3 hnd, hmem, ?_, hv3, fun k e => (by have := hp4 k e; omega), hb2.trans (hb3.mono (by omega))⟩
  have h1 : dO.length = ss.length := by have := hp3.length_eq; simpa using this
  have h2 := size_le hown ss (fun kl hkl => by
    obtain ⟨m, hm, rfl⟩ := hks kl hkl
    exact ⟨m, (hS3.2.2.1 m hm).2 hkl, rfl⟩)
  have h3 := hS3.2.2.2
  omega
end Go.Proofs.YtmlaedpamobmhaaGreat
namespace Go.Proofs.YtmlaedpamobmhaaGreat
open Go.RowKit Go.Maps Go.Sort Go.Shelf
set_option linter.unusedVariables false
attribute [local go_sem] Oper.semAt_some

abbrev BA : Type := Nat × OM
def encB (x : BA) : Array Value := #[.int .i64 (x.1 : Int), .agg #[.int .i64 x.2.1.x, .int .i64 x.2.1.y, .int .i64 x.2.1.d, .int .i64 x.2.1.e]]
def itemB (d : List OM) (i : Nat) : BA := (i, d.getD i default)
/-- what has come when those from the k-th on have. -/
def doneB (d : List OM) (k : Nat) : List BA := (List.range (d.length - k)).map fun j => itemB d (d.length - 1 - j)
theorem doneB_start (d : List OM) : doneB d d.length = [] := by simp [doneB]
theorem doneB_step (d : List OM) (k : Nat) (h : k < d.length) : doneB d (k + 1) ++ [itemB d k] = doneB d k := by
  unfold doneB
  rw [show d.length - k = (d.length - (k + 1)) + 1 by omega, List.range_succ, List.map_append]
  simp only [List.map_cons, List.map_nil]
  rw [show d.length - 1 - (d.length - (k + 1)) = k by omega]
theorem doneB_length (d : List OM) (k : Nat) : (doneB d k).length = d.length - k := by simp [doneB]
/-- what the iterator wants kept between two rounds: its box, and the row. -/
def keepB (Bm : Nat) (p : Option Addr) (W W' : World) : Prop := W.heap.size ≤ W'.heap.size ∧ ∀ k, (k = Bm ∨ p = some ⟨k, 0, none⟩) → W'.heap[k]? = W.heap[k]?
theorem keepB_t {Bm : Nat} {p : Option Addr} {A B C : World} (h : keepB Bm p A B) (k : keepB Bm p B C) : keepB Bm p A C := ⟨Nat.le_trans h.1 k.1, fun i hi => (k.2 i hi).trans (h.2 i hi)⟩
theorem keepB_b {Bm : Nat} {p : Option Addr} {w : World} (hB : Bm < w.heap.size) (hp : ∀ k, p = some ⟨k, 0, none⟩ → k < w.heap.size) (W : World) (l : Nat) (o o' : Obj) (hl : w.heap.size ≤ l) (h : W.heap[l]? = some o) (_ : o.isCells = false) (_ : o.isWalk = false) : keepB Bm p W (W.putObj l o') :=
  ⟨by rw [World.putObj_size]; exact Nat.le_refl _, fun k hk => World.putObj_heap_other (by rcases hk with rfl | hk; omega; have := hp k hk; omega)⟩
set_option maxHeartbeats 1000000 in
theorem backV {F : Fence} {n : Nat} (h7 : F.fn 126) (hro : F.round = none) (p : Option Addr) (k cap : Nat) (w : World) :
    CallsIn F n Tryz.prog 126 #[.slice p k cap] w fun e w' => e = .returned (.func (.func 153) #[] #[.pointer (some ⟨w.heap.size, 0, none⟩)]) ∧ w' = w.alloc (.cells #[.slice p k cap] 49) := by
  refine callsIn_of_wp Tryz.func126 rfl h7 ?_ hro
  simp only [Tryz.ntmps126, List.size_toArray, List.length_cons, List.length_nil, Nat.reduceAdd, Nat.reduceSub, Array.replicate_succ, Array.replicate_zero, List.push_toArray, List.append_toArray, List.nil_append, List.cons_append]
  gi_wp2
  go_ret
  exact ⟨rfl, rfl⟩
set_option maxRecDepth 100000 in
set_option maxHeartbeats 1000000 in
theorem back1S {F : Fence} {n : Nat} (h10 : F.fn 153) (hro : F.round = none) (hn : 1 ≤ n) (l Bm cap : Nat) (p : Option Addr) (d : List OM) (hd : d.length ≤ 1000000) (J Jx : List BA → World → Prop)
    (hY : ∀ pre x W, J pre W → pre.length < d.length → YieldAt F (n - 1) Tryz.prog l (encB x) W fun e W' => (e = .returned (.bool true) ∧ J (pre ++ [x]) W' ∧ keepB Bm p W W') ∨ (e = .returned (.bool false) ∧ Jx (pre ++ [x]) W'))
    (W : World) (hbox : W.cell? ⟨Bm, 0, none⟩ = some (.slice p d.length cap)) (hrow : RowV W p (d.map (·.1))) (h0 : J [] W) :
    CallsIn F n Tryz.prog 153 #[.func (.yield l) #[] #[], .pointer (some ⟨Bm, 0, none⟩)] W fun e W' => (∃ v, e = .returned v) ∧ ((∃ xs, xs = doneB d 0 ∧ J xs W') ∨ (∃ pre, True ∧ Jx pre W')) := by
  refine callsIn_of_wp Tryz.func153 rfl h10 ?_ hro
  simp only [Tryz.ntmps153, List.size_toArray, List.length_cons, List.length_nil, Nat.reduceAdd, Nat.reduceSub, Array.replicate_succ, Array.replicate_zero, List.push_toArray, List.append_toArray, List.nil_append, List.cons_append]
  gi_wp2
  gi_loopw [3] (fun v wr => ∃ k : Nat, k ≤ d.length ∧ v = .int .i64 ((k : Int) - 1) ∧ J (doneB d k) wr ∧ wr.cell? ⟨Bm, 0, none⟩ = some (.slice p d.length cap) ∧ RowV wr p (d.map (·.1))) (fun v _ => (RowKit.intOf v + 1).toNat)
  case atStart =>
    exact ⟨d.length, Nat.le_refl _, rfl, by rw [doneB_start]; exact h0, hbox, hrow⟩
  case round =>
    obtain ⟨k, hk, rfl, hJ, hb, hR⟩ := hrel
    cases k with
    | zero =>
      gi_wp2
      go_end0
      exact ⟨⟨_, rfl⟩, .inl ⟨_, rfl, hJ⟩⟩
    | succ k =>
      have e1 : ((k + 1 : Nat) : Int) - 1 = (k : Int) := by omega
      rw [e1]
      have hi : k < d.length := by omega
      obtain ⟨g, rfl, hgl, c0, c1, c2, c3⟩ := hR.here k (by simpa using hi)
      have HR := Hid.mk' hR
      have hYk := hY (doneB d (k + 1)) (itemB d k) _ hJ (by rw [doneB_length]; omega)
      rw [doneB_step d k hi] at hYk
      have eM : (d.map (·.1))[k]'(by simpa using hi) = (itemB d k).2.1 := by simp [itemB, hi]
      rw [eM] at c0 c1 c2 c3
      have hk1 : (itemB d k).1 = k := rfl
      clear hR eM hY
      obtain ⟨fn, tmps, assign, body, hy, hRd⟩ := hYk
      dsimp only [encB] at hy
      rw [hk1] at hy
      clear hk1
      generalize (itemB d k).2.1 = m at c0 c1 c2 c3 hy
      gi_wp2
      refine hRd.mono ?_
      rintro e W3 (⟨rfl, hJ3, hk3⟩ | ⟨rfl, hJx3⟩)
      · have hb3 : W3.cell? ⟨Bm, 0, none⟩ = some (.slice (some ⟨g, 0, none⟩) d.length cap) := (World.cell?_of_block (w := wr) (a := ⟨Bm, 0, none⟩) (hk3.2 Bm (.inl rfl))).trans hb
        gi_wp2
        go_roundw
        case rel => exact ⟨k, by omega, rfl, hJ3, hb3, HR.out.keep hk3.1 (fun g' e => hk3.2 g' (.inr e))⟩
        case measure => simp only [RowKit.intOf]; omega
      · gi_wp2
        refine bodyPost_ret (results_none rfl _ _ _) rfl ?_
        exact ⟨⟨_, rfl⟩, .inr ⟨_, trivial, hJx3⟩⟩
theorem backStops {n : Nat} (hn : 1 ≤ n) (Bm cap : Nat) (p : Option Addr) (d : List OM) (hd : d.length ≤ 1000000) (w : World) (hBm : Bm < w.heap.size) (hbox : w.cell? ⟨Bm, 0, none⟩ = some (.slice p d.length cap)) (hrow : RowV w p (d.map (·.1))) (hp : ∀ k, p = some ⟨k, 0, none⟩ → k < w.heap.size) :
    SeqStopsK Fence.wide n Tryz.prog 153 #[.pointer (some ⟨Bm, 0, none⟩)] encB (keepB Bm p) (fun xs => xs = doneB d 0) (fun _ => True) d.length w := fun l J Jx W hW _ _ hY h0 =>
  back1S (F := Fence.wide) trivial rfl hn l Bm cap p d hd J Jx hY W ((hW.cell (p := ⟨Bm, 0, none⟩) hBm).trans hbox) (hrow.keep hW.size (fun g e => hW.block g (hp g e))) h0
end Go.Proofs.YtmlaedpamobmhaaGreat
namespace Go.Proofs.YtmlaedpamobmhaaGreat
open Go.RowKit

/-- how many operations are not yet done. -/
def undone (l : Array Bool) : Nat := (l.toList.filter (fun b => b == false)).length
theorem undone_list : ∀ (l : List Bool) (i : Nat), l[i]? = some false → ((l.set i true).filter (fun b => b == false)).length + 1 = (l.filter (fun b => b == false)).length
  | [], i, h => by simp at h
  | b :: r, 0, h => by
    simp at h
    subst h
    simp
  | b :: r, i + 1, h => by
    have ih := undone_list r i (by simpa using h)
    cases b <;> simp at ih ⊢ <;> omega
theorem undone_set {l : Array Bool} {i : Nat} (h : l[i]? = some false) : undone (l.setIfInBounds i true) + 1 = undone l := by
  unfold undone
  rw [Array.toList_setIfInBounds]
  exact undone_list _ _ (by simpa using h)
theorem undone_none_list : ∀ (l : List Bool), (l.filter (fun b => b == false)).length = 0 → ∀ i : Nat, l[i]? ≠ some false
  | [], _, i, h => by simp at h
  | b :: r, hl, 0, h => by
    simp at h
    subst h
    simp at hl
  | b :: r, hl, i + 1, h => by
    refine undone_none_list r ?_ i (by simpa using h)
    cases b <;> simp at hl ⊢
    exact hl
theorem getD_false {l : Array Bool} {i : Nat} (h : l.getD i true = false) : l[i]? = some false := by
  rw [Array.getD_eq_getD_getElem?] at h
  cases hx : l[i]? with
  | none => rw [hx] at h; simp at h
  | some b => rw [hx] at h; simp at h; rw [h]
theorem wpAny_inv {P : Program} {md : Region.Mode} {ops : Array Oper} {Q : Exit → Act → World → Prop} {I : Array Bool → Act → World → Prop}
    (hs : ∀ l a w, I l a w → ∀ i ∈ Region.ready md ops l, wpOp P ops Q i (I (l.setIfInBounds i true)) a w)
    (he : ∀ l a w, I l a w → Region.ready md ops l = [] → Q .normal a w) :
    ∀ (fuel : Nat) (l : Array Bool) (a : Act) (w : World), undone l ≤ fuel → I l a w → wpAny P md ops Q fuel l a w
  | 0, l, a, w, hf, hI => by
    have hr : Region.ready md ops l = [] := by
      rw [List.eq_nil_iff_forall_not_mem]
      intro i hi
      have h0 := getD_false (mem_ready.1 hi).1
      exact undone_none_list l.toList (by unfold undone at hf; omega) i (by simpa using h0)
    exact ⟨hr, he l a w hI hr⟩
  | fuel + 1, l, a, w, hf, hI => by
    refine ⟨fun hr => he l a w hI hr, fun i hi => ?_⟩
    have h0 := getD_false (mem_ready.1 hi).1
    have h1 := undone_set h0
    exact wpOp_mono (fun a' w' h => wpAny_inv hs he fuel _ a' w' (by omega) h) (hs l a w hI i hi)
theorem undone_replicate (n : Nat) : undone (Array.replicate n false) = n := by
  unfold undone; simp
/-- .. and so the region. -/
theorem wp_region_inv {P : Program} {id : Nat} {ops : Array Oper} {Q : Exit → Act → World → Prop} {I : Array Bool → Act → World → Prop} {a : Act} {w : World} (hm : P.follows .mixedOrders = true)
    (h0 : I (Array.replicate ops.size false) a w.drew)
    (hs : ∀ l a w, I l a w → ∀ i ∈ Region.ready .any ops l, wpOp P ops Q i (I (l.setIfInBounds i true)) a w)
    (he : ∀ l a w, I l a w → Region.ready .any ops l = [] → Q .normal a w) : (Code.region id ops true).wp P Q a w :=
  wp_region_any hm (wpAny_inv hs he ops.size _ a _ (by rw [undone_replicate]; exact Nat.le_refl _) h0)
end Go.Proofs.YtmlaedpamobmhaaGreat
