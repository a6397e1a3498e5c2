/-
  keysInOrder: a sum's monomials, the least first.
-/
import Derived.Test.YtioecpiogpjlaaaSortedM
import Derived.Test.YtioecpiogpjlaaaMathSum
import Derived.RangeFuncNested
namespace Go.Proofs.Ytioecpiogpjlaaa
open Go.RowKit Go.Maps Go.Sort Go.Shelf
set_option linter.unusedVariables false

theorem len_of_sub {α : Type} [DecidableEq α] : ∀ (l r : List α), l.Nodup → (∀ x ∈ l, x ∈ r) → l.length ≤ r.length
  | [], _, _, _ => Nat.zero_le _
  | x :: l, r, hn, hs => by
    rw [List.nodup_cons] at hn
    have hx : x ∈ r := hs x (List.mem_cons_self ..)
    have := len_of_sub l (r.erase x) hn.2 (fun y hy => (List.mem_erase_of_ne (fun e : y = x => hn.1 (e ▸ hy))).2 (hs y (List.mem_cons_of_mem _ hy)))
    rw [List.length_erase_of_mem hx] at this
    have : 0 < r.length := List.length_pos_of_mem hx
    simp only [List.length_cons]
    omega
theorem size_max {w : World} {b n : Nat} {D : DataW Unit} (h : w.ownsMap Try.prog 38 (plainElem Try.prog 54) b n D) : Maps.size D ≤ n := by
  obtain ⟨es, clock, h1, F, h3, rfl⟩ := h
  rw [size_eq, length_read]
  exact h3
theorem size_le {w : World} {b n : Nat} {D : DataW Unit} (h : w.ownsMap Try.prog 38 (plainElem Try.prog 54) b n D) (ss : List M) (hk : ∀ kl, Maps.has D kl = true → ∃ m ∈ ss, kl = keyM m) : Maps.size D ≤ ss.length := by
  have ht := h.tidy lawM
  obtain ⟨es, clock, h1, F, h3, hD⟩ := h
  obtain ⟨L, hL, hp⟩ := ht
  have e : L = (es.toList.map (WideElems.rg Try.prog 38 (plainElem Try.prog 54))).foldr DataW.insert [] := by rw [hL] at hD; exact DataW.map.inj hD
  have hkeys : ∀ p ∈ L, ∃ m ∈ ss, p.1 = keyM m := fun p hpL => by
    refine hk p.1 ?_
    rw [hL, has_eq, List.any_eq_true]
    refine ⟨p, hpL, ?_⟩
    have hmem : p ∈ es.toList.map (WideElems.rg Try.prog 38 (plainElem Try.prog 54)) := by
      rw [e] at hpL
      exact (WideShapes.sorted_perm _).mem_iff.1 hpL
    obtain ⟨v, hv⟩ := fit_keys F p hmem
    exact WideAt.sameKey_self (lawM.key hv)
  rw [hL, size_eq]
  letI : DecidableEq Lit := fun a b => Classical.propDecidable (a = b)
  have := len_of_sub (L.map (·.1)) (ss.map keyM) (by rw [List.Nodup, List.pairwise_map]; exact hp) (fun x hx => by
    obtain ⟨p, hpL, rfl⟩ := List.mem_map.1 hx
    obtain ⟨m, hm, he⟩ := hkeys p hpL
    rw [he]
    exact List.mem_map_of_mem hm)
  simpa using this
theorem strict_of {l : List OM} (h : l.Pairwise (fun a b => rkD a.1 ≤ rkD b.1)) (hn : (l.map (·.1)).Nodup) : l.Pairwise (fun a b => rkD a.1 < rkD b.1) := by
  rw [List.Nodup, List.pairwise_map] at hn
  refine (h.and hn).imp ?_
  rintro a b ⟨h1, h2⟩
  rcases Int.lt_or_eq_of_le h1 with h | h
  · exact h
  · exact absurd (rkD_inj a.2 b.2 h) h2
set_option maxHeartbeats 1000000 in
theorem keysOrd (hsort : SortsM) (w : World) (b n : Nat) (D : DataW Unit) (hown : w.ownsMap Try.prog 38 (plainElem Try.prog 54) b n D) (hks : ∀ kl, Maps.has D kl = true → ∃ m : M, m.ok = true ∧ kl = keyM m) (hn : n ≤ 1000000) :
    Calls Try.prog 60 #[.map (some b), .func (.func 54) #[] #[]] w fun e w' => ∃ (p : Option Addr) (cap : Nat) (dO : List OM), e = .returned (.slice p dO.length cap) ∧ dO.Pairwise (fun a b => rkD a.1 < rkD b.1) ∧ (∀ m : M, m.ok = true → (m ∈ dO.map (·.1) ↔ Maps.has D (keyM m) = true)) ∧ dO.length = Maps.size D ∧ RowV w' p (dO.map (·.1)) ∧ (∀ k, p = some ⟨k, 0, none⟩ → w.heap.size ≤ k ∧ k < w'.heap.size) ∧ Below w.heap.size w w' := by
  have hN : Maps.size D ≤ 1000000 := Nat.le_trans (size_max hown) hn
  obtain ⟨W1, hW1⟩ : ∃ W1, w.alloc (.cells #[.func (.func 54) #[] #[]] 58) = W1 := ⟨_, rfl⟩
  obtain ⟨W2, hW2⟩ : ∃ W2, W1.alloc (.cells #[.map (some b)] 48) = W2 := ⟨_, rfl⟩
  have hs1 : W1.heap.size = w.heap.size + 1 := by rw [← hW1]; simp
  have hs2 : W2.heap.size = w.heap.size + 2 := by rw [← hW2]; simp [hs1]
  have hb1 : Below w.heap.size w W1 := by rw [← hW1]; exact (Below.refl _ w).alloc (Nat.le_refl _) _
  have hb2 : Below w.heap.size w W2 := by rw [← hW2]; exact hb1.alloc hb1.size _
  have hr1 : W1.cell? ⟨w.heap.size, 0, none⟩ = some (.func (.func 54) #[] #[]) := by rw [← hW1]; exact (Boxed.new w _ _).cell
  have hr2 : W2.cell? ⟨w.heap.size, 0, none⟩ = some (.func (.func 54) #[] #[]) := by rw [← hW2]; exact (World.cell?_of_block (w := W1) (a := ⟨w.heap.size, 0, none⟩) (Below.heap_alloc W1 _ w.heap.size (by omega))).trans hr1
  have hm2 : W2.cell? ⟨w.heap.size + 1, 0, none⟩ = some (.map (some b)) := by rw [← hs1, ← hW2]; exact (Boxed.new W1 _ _).cell
  have hown2 : W2.ownsMap Try.prog 38 (plainElem Try.prog 54) b n D := by rw [← hW2, ← hW1]; exact (hown.alloc _).alloc _
  have hseq : SeqGives Fence.wide 5 Try.prog 81 #[.pointer (some ⟨w.heap.size + 1, 0, none⟩)] enM (KeysOf D) (Maps.size D) W2 := keysGives trivial rfl (by omega) _ b n D W2 (by omega) hks hm2 hown2
  have hS := sortedM hsort 81 _ (enters_of Try.func81 (by kernel_rfl) rfl) (KeysOf D) _ hN (fun ss h => h.2.1) (fun ss h => h.2.2.2) W2 hseq w.heap.size (by omega) hr2
  have hK := (callsIn_wide (n := 5)).1 (keysM (F := Fence.wide) (n := 5) trivial rfl (some b) W1)
  rw [hs1] at hK
  clear hseq hm2 hr2 hr1
  go_enter Try.func60, Try.ntmps60
  go_wp2_with (first
    | (go_at_call 74; refine hK.mono ?_; rintro e W ⟨rfl, hw⟩; obtain rfl := hw.trans hW2; clear hw)
    | (go_at_call 73; refine hS.mono ?_; rintro e W3 ⟨p, cap, dO, ss, rfl, hS3, hp3, hs3, hv3, hp4, hb3⟩))
  go_ret
  have hnd : (dO.map (·.1)).Nodup := hp3.symm.nodup hS3.1
  have hmem : ∀ m : M, m.ok = true → (m ∈ dO.map (·.1) ↔ Maps.has D (keyM m) = true) := fun m hm => by rw [hp3.mem_iff]; exact hS3.2.2.1 m hm
  refine ⟨p, cap, dO, rfl, strict_of hs3 hnd, hmem, ?_, hv3, fun k e => (by have := hp4 k e; omega), hb2.trans (hb3.mono (by omega))⟩
  have h1 : dO.length = ss.length := by have := hp3.length_eq; simpa using this
  have h2 := size_le hown ss (fun kl hkl => by
    obtain ⟨m, hm, rfl⟩ := hks kl hkl
    exact ⟨m, (hS3.2.2.1 m hm).2 hkl, rfl⟩)
  have h3 := hS3.2.2.2
  omega
end Go.Proofs.Ytioecpiogpjlaaa
