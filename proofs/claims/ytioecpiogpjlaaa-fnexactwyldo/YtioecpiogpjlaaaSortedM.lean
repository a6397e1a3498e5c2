/-
  slices.SortedFunc of monomials, and keysInOrder, given what slices.SortFunc does.
-/
import Derived.Test.YtioecpiogpjlaaaSortM
import Derived.Test.YtioecpiogpjlaaaBackM
namespace Go.Proofs.Ytioecpiogpjlaaa
open Go.RowKit Go.Maps Go.Sort Go.Shelf
set_option linter.unusedVariables false

/-- what slices.SortFunc does to monomials that are ok, by keysInOrder's closure. -/
def SortsM : Prop :=
  (∀ (Br : Nat) (W : World) (gb cap : Nat) (d : Array OM), Br < W.heap.size → Br ≠ gb → W.cell? ⟨Br, 0, none⟩ = some (.func (.func 54) #[] #[]) → HoldsK cellsO 4 W gb 0 d → gb < W.heap.size → d.size < 4611686018427387904 →
    Calls Try.prog 80 #[.slice (some ⟨gb, 0, none⟩) d.size cap, .func (.func 75) #[] #[.pointer (some ⟨Br, 0, none⟩)]] W fun e w' => e = .returned (.tuple #[]) ∧
      ∃ d' n os, PermIn 0 d.size d d' ∧ SortedIn (ltOf fun x y : OM => c3 (rkD x.1) (rkD y.1)) 0 d.size d' ∧ w' = sortWorldK cellsO 4 W gb 0 n d' os) ∧
  (∀ (p : Option Addr) (cap : Nat) (fv : Value) (W : World), Calls Try.prog 80 #[.slice p 0 cap, fv] W fun e w' => e = .returned (.tuple #[]) ∧ w' = W)
theorem flatM_at : ∀ (ss : List M) (i c : Nat) (h : i < ss.length), c < 4 → (flatM ss)[i * 4 + c]? = (cellsM ss[i])[c]?
  | [], i, c, h, _ => by simp at h
  | x :: r, 0, c, _, hc => by
    have e : flatM (x :: r) = cellsM x ++ flatM r := rfl
    rw [e, List.getElem?_append_left (by simp [cellsM]; omega)]
    simp
  | x :: r, i + 1, c, h, hc => by
    have e : flatM (x :: r) = cellsM x ++ flatM r := rfl
    have hl : (cellsM x).length = 4 := rfl
    rw [e, List.getElem?_append_right (by rw [hl]; omega), hl, show (i + 1) * 4 + c - 4 = i * 4 + c by omega]
    exact flatM_at r i c (by simpa using h) hc
theorem holdsO {W : World} {gb : Nat} {cur : Array Value} {t : TypeId} (dO : List OM) (hgb : W.heap[gb]? = some (.cells cur t (0, 0))) (r4 : cur.toList.take (dO.length * 4) = flatM (dO.map (·.1))) : HoldsK cellsO 4 W gb 0 dO.toArray := by
  intro j hj
  rw [size_flatK] at hj
  have hj' : j < dO.length * 4 := by simpa using hj
  refine ⟨?_, by simp [World.frozen?, hgb]⟩
  have h1 : (cur.toList.take (dO.length * 4))[j]? = (flatM (dO.map (·.1)))[j]? := by rw [r4]
  rw [List.getElem?_take_of_lt hj'] at h1
  have hi : j / 4 < dO.length := by omega
  have h2 := flatM_at (dO.map (·.1)) (j / 4) (j % 4) (by simpa using hi) (by omega)
  have e2 : (dO.map (·.1))[j / 4]'(by simpa using hi) = (dO[j / 4]'hi).1 := List.getElem_map ..
  rw [show j / 4 * 4 + j % 4 = j by omega, e2] at h2
  simp only [World.cell?, hgb, Nat.zero_add]
  simp only [Option.isSome_none, Bool.false_eq_true, if_false]
  rw [← Array.getElem?_toList, h1, h2, id, get_flatK _ _ _ _ hj]
  have hx : dO.toArray[j / 4]! = dO[j / 4]'hi := by
    rw [getElem!_pos dO.toArray (j / 4) (by simpa using hi)]; simp
  rw [hx]
  generalize dO[j / 4]'hi = z
  have hc : j % 4 < 4 := by omega
  show (cellsO z)[j % 4]? = some (cellsO z)[j % 4]!
  rw [List.getElem?_eq_getElem (show j % 4 < (cellsO z).length from hc), getElem!_pos (cellsO z) (j % 4) hc]
  rfl
/-- the slice with address p reads as the monomials d. -/
structure RowV (W : World) (p : Option Addr) (d : List M) : Prop where
  here : ∀ i (h : i < d.length), ∃ g, p = some ⟨g, 0, none⟩ ∧ g < W.heap.size ∧ W.cell? ⟨g, i * 4, none⟩ = some (.int .i64 d[i].x) ∧ W.cell? ⟨g, i * 4 + 1, none⟩ = some (.int .i64 d[i].y) ∧ W.cell? ⟨g, i * 4 + 2, none⟩ = some (.int .i64 d[i].d) ∧ W.cell? ⟨g, i * 4 + 3, none⟩ = some (.int .i64 d[i].e)
theorem RowV.keep {W W' : World} {p : Option Addr} {d : List M} (h : RowV W p d) (hs : W.heap.size ≤ W'.heap.size) (hk : ∀ g, p = some ⟨g, 0, none⟩ → W'.heap[g]? = W.heap[g]?) : RowV W' p d := ⟨fun i hi => by
  obtain ⟨g, hp, hg, c0, c1, c2, c3⟩ := h.here i hi
  have hb := hk g hp
  exact ⟨g, hp, by omega, (World.cell?_of_block (w := W) (a := ⟨g, _, none⟩) hb).trans c0, (World.cell?_of_block (w := W) (a := ⟨g, _, none⟩) hb).trans c1, (World.cell?_of_block (w := W) (a := ⟨g, _, none⟩) hb).trans c2, (World.cell?_of_block (w := W) (a := ⟨g, _, none⟩) hb).trans c3⟩⟩
theorem grown_sortedK {w : World} {g n : Nat} {os : Array Obj} (d : Array OM) : w.grownBy (sortWorldK cellsO 4 w g 0 n d os) (some g) := by
  refine ⟨rfl, rfl, rfl, by simp [sortWorldK, putRowK], fun k hk hne => ?_⟩
  unfold sortWorldK
  rw [heap_grow_old _ _ (by simpa [putRowK] using hk)]
  have : g ≠ k := fun e => hne (by rw [e])
  simp [putRowK, putRow, mapBlock, Sort.ahead, Array.getElem?_modify, this]
theorem rowV_sorted {W : World} {gb n : Nat} {os : Array Obj} (d d' : Array OM) (hH : HoldsK cellsO 4 W gb 0 d) (hgl : gb < W.heap.size) (hs : d'.size = d.size) : RowV (sortWorldK cellsO 4 W gb 0 n d' os) (some ⟨gb, 0, none⟩) (d'.toList.map (·.1)) := ⟨fun i hi => by
  have hK : HoldsK cellsO 4 (sortWorldK cellsO 4 W gb 0 n d' os) gb 0 d' := by
    unfold sortWorldK
    exact holdsK_grow (enc := cellsO) (k := 4) _ _ _ _ _ (by rw [size_putRowK]; exact hgl) (holdsK_putRowK (enc := cellsO) (k := 4) _ _ _ d d' (holdsK_ahead (enc := cellsO) (k := 4) _ _ _ _ _ hH) hs)
  have hi' : i < d'.size := by simpa using hi
  have hx : d'[i]! = d'[i] := getElem!_pos d' i hi'
  have hgs : gb < (sortWorldK cellsO 4 W gb 0 n d' os).heap.size := by
    unfold sortWorldK
    rw [size_grow, size_putRowK]
    exact Nat.lt_of_lt_of_le hgl (Nat.le_add_right _ _)
  have k : ∀ c : Nat, c < 4 → _ := fun c hc => (hK.cell (i := i) (c := c) hi' hc).1
  have k0 := k 0 (by omega)
  have k1 := k 1 (by omega)
  have k2 := k 2 (by omega)
  have k3 := k 3 (by omega)
  rw [hx, Nat.zero_add] at k0 k1 k2 k3
  have e : (d'.toList.map (·.1))[i] = (d'[i]).1 := by simp
  rw [e]
  exact ⟨gb, rfl, hgs, k0, k1, k2, k3⟩⟩
set_option maxHeartbeats 1000000 in
theorem sortedM (hsort : SortsM) (g : Nat) (lb : Array Value) (eg : ∀ args w, (callFunc g args).run Try.prog w = .ok (.enter g args) w) (S : List M → Prop) (N : Nat) (hN : N ≤ 1000000) (hok : ∀ ss, S ss → ∀ m ∈ ss, m.ok = true) (hle : ∀ ss, S ss → ss.length ≤ N) (w : World) (hseq : SeqGives Fence.wide 5 Try.prog g lb enM S N w)
    (Br : Nat) (hB : Br < w.heap.size) (hr : w.cell? ⟨Br, 0, none⟩ = some (.func (.func 54) #[] #[])) :
    Calls Try.prog 73 #[.func (.func g) #[] lb, .func (.func 75) #[] #[.pointer (some ⟨Br, 0, none⟩)]] w fun e w' => ∃ (p : Option Addr) (cap : Nat) (dO : List OM) (ss : List M), e = .returned (.slice p dO.length cap) ∧ S ss ∧ (dO.map (·.1)).Perm ss ∧ dO.Pairwise (fun a b => rkD a.1 ≤ rkD b.1) ∧ RowV w' p (dO.map (·.1)) ∧ (∀ k, p = some ⟨k, 0, none⟩ → w.heap.size ≤ k ∧ k < w'.heap.size) ∧ Below w.heap.size w w' := by
  go_enter Try.func73, Try.ntmps73
  have hcol := (callsIn_wide (n := 7)).1 (collectM (F := Fence.wide) (n := 7) trivial trivial rfl (by omega) g lb trivial eg S N hN w hseq)
  go_wp2_with (go_at_call 79; refine hcol.mono ?_; rintro e W ⟨v, ss, rfl, hS, hrow, hnil, hb⟩)
  rcases hrow.2 with ⟨rfl, hz⟩ | ⟨gb, cap, cur, rfl, hbase, hgb, r1, r2, r3, r4⟩
  · have hss : ss = [] := List.eq_nil_of_length_eq_zero hz
    subst hss
    go_wp2_with (go_at_call 80; refine (hsort.2 none 0 _ W).mono ?_; rintro e w' ⟨rfl, hw⟩; obtain rfl := hw.symm; clear hw)
    go_ret
    exact ⟨none, 0, [], [], rfl, hS, List.Perm.refl _, List.Pairwise.nil, ⟨fun i h => by simp at h⟩, fun k e => (by cases e), hb⟩
  · obtain ⟨dO, hdO⟩ : ∃ dO : List OM, dO.map (·.1) = ss := ⟨ss.pmap (fun m h => (⟨m, h⟩ : OM)) (hok ss hS), by simp [List.map_pmap]⟩
    have hl : dO.length = ss.length := by rw [← hdO]; simp
    rw [← hl] at r4
    rw [← hdO] at r4
    have hH : HoldsK cellsO 4 W gb 0 dO.toArray := holdsO dO hgb r4
    have hgl : gb < W.heap.size := (Array.getElem?_eq_some_iff.1 hgb).1
    have hsz : dO.toArray.size < 4611686018427387904 := by have := hle ss hS; simp; omega
    have cS := hsort.1 Br W gb cap dO.toArray (by have := hb.size; omega) (by omega) ((hb.cell (p := ⟨Br, 0, none⟩) hB).trans hr) hH hgl hsz
    simp only [List.size_toArray, hl] at cS
    go_wp2_with (go_at_call 80; refine cS.mono ?_; rintro e w' ⟨rfl, d', nn, os, hp, hs, hw⟩; obtain rfl := hw.symm; clear hw)
    go_ret
    obtain ⟨hp1, hp2, hp3⟩ := hp
    have hsd : d'.size = dO.length := by simpa using hp1
    have hperm : d'.toList.Perm dO := by
      have e1 : d'.extract 0 ss.length = d' := by rw [← hl, ← hsd]; exact Array.extract_size
      have e2 : dO.toArray.extract 0 ss.length = dO.toArray := by rw [← hl]; simp
      rw [e1, e2] at hp3
      simpa using hp3
    refine ⟨some ⟨gb, 0, none⟩, cap, d'.toList, ss, ?_, hS, ?_, ?_, rowV_sorted dO.toArray d' hH hgl hp1, fun k e => (by cases e; exact ⟨hbase, Nat.lt_of_lt_of_le hgl (grown_sortedK d').size⟩), hb.grown (grown_sortedK d') hb.size (fun j hj => by cases hj; exact hbase)⟩
    · rw [show d'.toList.length = ss.length by simp; omega]
      rfl
    · rw [← hdO]; exact hperm.map _
    · rw [List.pairwise_iff_getElem]
      intro i j hi hj hij
      have hi' : i < d'.size := by simpa using hi
      have hj' : j < d'.size := by simpa using hj
      have := hs i j (Nat.zero_le _) hij (by omega)
      rw [getElem!_pos d' i hi', getElem!_pos d' j hj', ltM] at this
      simp at this
      simpa using this
end Go.Proofs.Ytioecpiogpjlaaa
