/-
  A copy of lists, its blocks rise; and it is marked.
  Operators as lists: sums, differences, so many times, the most that is counted.
  What the functions over operators hand back, as lists.
-/
import Derived.Test.YtoglomfejgpoeaaGreatDoorGbn
import Derived.Test.YtoglomfejgpoeaaGreatDoorGbb
import Derived.Test.YtoglomfejgpoeaaGreatDoorGak
import Derived.Test.YtoglomfejgpoeaaGreatDoorGax
import Derived.Test.YtoglomfejgpoeaaGreatDoorGay
import Derived.Test.YtoglomfejgpoeaaGreatDoorGbd
import Derived.Test.YtoglomfejgpoeaaGreatDoorGbg
namespace Go.Proofs.YtoglomfejgpoeaaGreatDoor
open Go.RowKit Go.Deep Go.Joins
set_option linter.unusedVariables false
set_option maxHeartbeats 4000000 in
theorem toLists2 (w : World) (a : Option Addr) (n cap : Nat) (ad : Nat → Option Addr) (ln cp : Nat → Nat) (f : Nat → Nat → T) (h : RdS w a n cap ad ln cp f) :
    Calls Tryz.prog 16 #[.slice a n cap] w fun r w' => ∃ B : Nat → Nat, r = .returned (.slice (some ⟨w.heap.size, 0, none⟩) n n) ∧ Below w.heap.size w w' ∧ w'.rowIs w.heap.size 22 n (partS B ln n) ∧ (∀ i, i < n → w.heap.size < B i ∧ Own w' (B i) (ln i) (f i)) ∧ ∀ i j, i < j → j < n → B i < B j := by
  have hn : (n : Int) ≤ 140737488351232 := by have := h.2.1; omega
  have h2 := h.2.1
  have HH := Hid.mk' h
  clear h
  go_enter Tryz.func16, Tryz.ntmps16
  go_wp2_with (at_make; refine make_lists _ rfl _ _ rfl n rfl rfl (by omega) ?_; intro hrow)
  go_loopw [4] (fun i wr => ∃ (k : Nat) (B : Nat → Nat), k ≤ n ∧ i = .int .i64 k ∧ Below w.heap.size w wr ∧ wr.rowIs w.heap.size 22 n (partS B ln k) ∧ (∀ i, i < k → w.heap.size < B i ∧ Own wr (B i) (ln i) (f i)) ∧ ∀ i j, i < j → j < k → B i < B j) (fun i _ => n - (intOf i).toNat)
  case atStart => exact ⟨0, fun _ => 0, Nat.zero_le _, rfl, (Below.refl _ _).alloc (Nat.le_refl _) _, hrow.congr fun j _ => by simp [partS], fun i hi => by omega, fun i j _ hj => by omega⟩
  case round =>
    obtain ⟨k, B, hk, rfl, hB, hR, hO, hD⟩ := hrel
    have HD := Hid.mk' hD
    clear hD
    by_cases hlt : k < n
    · rcases HH.out.2.2.1 with h0 | ⟨b, off, rfl, hblt, hcl⟩
      · omega
      have hkn : (k : Int) < (n : Int) := by omega
      have g0 : wr.cell? ⟨b, off + k, none⟩ = some (.slice (ad k) (ln k) (cp k)) := (hB.cell (p := ⟨b, off + k, none⟩) hblt).trans (hcl k hlt)
      have HR := Hid.mk' hR
      have HO := Hid.mk' hO
      have HB := Hid.mk' hB
      have HK := Hid.mk' ((HH.out.2.2.2 k hlt).below hB)
      clear hR hcl hO
      go_wp2_with fail
      refine (toTerms _ _ _ _ (f k) HK.out).mono ?_
      rintro r w1 ⟨rfl, hb, ho⟩
      have hR1 := HR.out.of_block (hb.block w.heap.size (HR.out.lt))
      have hB1 := HB.out.trans (hb.mono HB.out.size)
      have hsz : w.heap.size < wr.heap.size := HR.out.lt
      have q0 := hR1.cell (i := k) hlt
      have fz := fun i => hR1.frozen i
      obtain ⟨V, hV⟩ : ∃ V, wr.heap.size = V := ⟨_, rfl⟩
      rw [hV] at ho ⊢
      have HN := Hid.mk' (partS_next (v := V) hR1)
      have HO2 : Hid (∀ i, i < k + 1 → w.heap.size < (if i = k then V else B i) ∧ Own w1 (if i = k then V else B i) (ln i) (f i)) := fun i hi => by
        by_cases e : i = k
        · rw [if_pos e, e]
          exact ⟨by omega, ho⟩
        · rw [if_neg e]
          have := HO.out i (by omega)
          exact ⟨this.1, this.2.below hb this.2.lt⟩
      have HD2 : Hid (∀ i j, i < j → j < k + 1 → (if i = k then V else B i) < (if j = k then V else B j)) := fun i j hij hj => by
        rw [if_neg (show ¬ i = k by omega)]
        by_cases e : j = k
        · rw [if_pos e, ← hV]
          exact (HO.out i (by omega)).2.lt
        · rw [if_neg e]
          exact HD.out i j hij (by omega)
      have HB1 := Hid.mk' hB1
      clear hR1 HR hb ho HO hB1 hB
      go_wp2
      go_roundw
      case rel =>
        refine ⟨k + 1, _, by omega, by go_num, HB1.out.setCell (Nat.le_refl _) _, HN.out, fun i hi => ?_, HD2.out⟩
        have := HO2.out i hi
        refine ⟨this.1, this.2.of_block ?_⟩
        exact Below.heap_setCell _ _ _ _ (Nat.ne_of_gt this.1)
      case measure => simp [intOf]; omega
    · have hkn : k = n := by omega
      subst hkn
      have HR := Hid.mk' hR
      have HO := Hid.mk' hO
      clear hR hO
      go_wp2
      go_ret
      exact ⟨B, rfl, hB, HR.out, HO.out, HD.out⟩
/-- no block was changed but those between lo and hi. -/
structure Apart (lo hi : Nat) (w w' : World) : Prop where
  os : w'.os = w.os
  tape : w'.tape = w.tape
  output : w'.output = w.output
  size : w'.heap.size = w.heap.size
  block : ∀ k, k < w.heap.size → k < lo ∨ hi ≤ k → w'.heap[k]? = w.heap[k]?
theorem Apart.refl (lo hi : Nat) (w : World) : Apart lo hi w w := ⟨rfl, rfl, rfl, rfl, fun _ _ _ => rfl⟩
theorem Apart.grown {lo hi : Nat} {w w' w'' : World} {g : Nat} (h : Apart lo hi w w') (hg : w'.grownBy w'' (some g)) (hs : w''.heap.size = w'.heap.size) (h1 : lo ≤ g) (h2 : g < hi) : Apart lo hi w w'' :=
  ⟨hg.os.trans h.os, hg.tape.trans h.tape, hg.output.trans h.output, hs.trans h.size, fun k hk hc => (hg.block k (by rw [h.size]; exact hk) (fun e => by cases e; omega)).trans (h.block k hk hc)⟩
set_option maxRecDepth 100000 in
set_option maxHeartbeats 4000000 in
theorem markLists (w : World) (g n hi : Nat) (B ln : Nat → Nat) (f : Nat → Nat → T) (k : Int) (hR : w.rowIs g 22 n (partS B ln n)) (hO : ∀ i, i < n → g < B i ∧ B i < hi ∧ Own w (B i) (ln i) (f i)) (hD : ∀ i j, i < j → j < n → B i < B j) (hn : n ≤ 1048576) (hl : ∀ i, i < n → ln i ≤ 1048576) (hk0 : 0 ≤ k) (hk1 : k ≤ 10000000000000) :
    Calls Tryz.prog 21 #[.slice (some ⟨g, 0, none⟩) n n, .int .i64 k] w fun r w' => ∃ z : Int, r = .returned (.int .i64 z) ∧ 0 ≤ z ∧ z ≤ k + 5242880 * n ∧ Apart (g + 1) hi w w' := by
  have hn' : (n : Int) ≤ 1048576 := by omega
  have HR := Hid.mk' hR
  have HO := Hid.mk' hO
  have HD := Hid.mk' hD
  have HL := Hid.mk' hl
  clear hR hO hD hl
  go_enter Tryz.func21, Tryz.ntmps21
  go_wp2
  go_loopw [1, 5] (fun kk ii wr => ∃ (i : Nat) (z : Int), i ≤ n ∧ ii = .int .i64 (i : Int) ∧ kk = .int .i64 z ∧ 0 ≤ z ∧ z ≤ k + 5242880 * i ∧ Apart (g + 1) hi w wr ∧ ∀ j, i ≤ j → j < n → Own wr (B j) (ln j) (f j)) (fun _ ii _ => n - (intOf ii).toNat)
  case atStart => exact ⟨0, k, Nat.zero_le _, rfl, rfl, hk0, by omega, Apart.refl _ _ _, fun j _ hj => (HO.out j hj).2.2⟩
  case round =>
    obtain ⟨i, z, hi, rfl, rfl, z0, z1, hA, hW⟩ := hrel
    have HA := Hid.mk' hA
    have HW := Hid.mk' hW
    clear hW
    by_cases hlt : i < n
    · have hil : (i : Int) < (n : Int) := by omega
      have hgl : g < w.heap.size := HR.out.lt
      have hrow := HR.out.of_block (hA.block g hgl (.inl (Nat.lt_succ_self _)))
      have g0 := hrow.cell (i := i) hlt
      have e0 : partS B ln n i = .slice (some ⟨B i, 0, none⟩) (ln i) (ln i) := by simp [partS, hlt]
      rw [e0] at g0
      have hli := HL.out i hlt
      have hw := HW.out i (Nat.le_refl _) hlt
      have HM := Hid.mk' (markTerms wr (some ⟨B i, 0, none⟩) (ln i) (ln i) (f i) z hw.wr (by omega) z0 (by omega))
      clear hrow hA hw e0
      go_wp2_with fail
      refine HM.out.mono ?_
      rintro r w1 ⟨rfl, hg, hz, _, _⟩
      have HA1 := Hid.mk' (HA.out.grown (show wr.grownBy w1 (some (B i)) from hg) hz (HO.out i hlt).1 (HO.out i hlt).2.1)
      have HW1 : Hid (∀ j, i + 1 ≤ j → j < n → Own w1 (B j) (ln j) (f j)) := fun j h1 h2 => (HW.out j (by omega) h2).of_block (hg.block (B j) (HW.out j (by omega) h2).lt (fun e => by
        have := HD.out i j (by omega) h2
        have e' : B j = B i := by simpa using e
        omega))
      clear hg hz HM g0
      go_wp2
      go_roundw
      case rel => exact ⟨i + 1, z + 5 * (ln i), by omega, by go_num, rfl, by omega, by omega, HA1.out, HW1.out⟩
      case measure => simp [intOf]; omega
    · have hnl : ¬ (i : Int) < (n : Int) := by omega
      have hie : i = n := by omega
      subst hie
      go_wp2
      go_ret
      exact ⟨z, rfl, z0, z1, HA.out⟩
end Go.Proofs.YtoglomfejgpoeaaGreatDoor
namespace Go.Proofs.YtoglomfejgpoeaaGreatDoor
open Go.RowKit
set_option linter.unusedVariables false

/-- a slice of terms, as a list. -/
def RL (w : World) (a : Option Addr) (c : Nat) (L : List T) : Prop := Rd w a L.length c (lf L)
theorem RL.below {w w' : World} {a : Option Addr} {c : Nat} {L : List T} (h : RL w a c L) (hb : Below w.heap.size w w') : RL w' a c L := Rd.below h hb
theorem lf_eq {L : List T} {i : Nat} (h : i < L.length) : lf L i = L[i] := by unfold lf; rw [List.getD_eq_getElem?_getD, List.getElem?_eq_getElem h]; rfl
theorem list_of {w : World} {a : Option Addr} {n cap : Nat} {f : Nat → T} (h : Rd w a n cap f) : ∃ L : List T, n = L.length ∧ RL w a cap L := by
  refine ⟨(List.range n).map f, by simp, ?_⟩
  have e : ((List.range n).map f).length = n := by simp
  have hf : ∀ i, i < n → lf ((List.range n).map f) i = f i := fun i hi => by rw [lf_eq (by simpa using hi)]; simp
  unfold RL
  rw [e]
  refine ⟨h.1, h.2.1, ?_⟩
  rcases h.2.2 with h0 | ⟨b, off, he, hlt, hc⟩
  · exact .inl h0
  · exact .inr ⟨b, off, he, hlt, fun i hi => by rw [hf i hi]; exact hc i hi⟩
def okL (L : List T) : Bool := polOk L.length (lf L)
theorem okL_falls {L : List T} (h : okL L = true) : L.length ≤ 400 ∧ Falls L := by
  have hF := fl_of_ok h
  have hl : L.length ≤ 400 := by unfold okL at h; simp only [polOk, decide_eq_true_eq] at h; exact h.1
  refine ⟨hl, List.pairwise_iff_getElem.2 (fun i j hi hj hij => ?_), fun t ht => ?_⟩
  · have := hF.1 i j hij hj
    rwa [lf_eq hi, lf_eq hj] at this
  · obtain ⟨i, hi, rfl⟩ := List.mem_iff_getElem.1 ht
    have := hF.2 i hi
    rwa [lf_eq hi] at this
theorem okL_of {L : List T} (hl : L.length ≤ 400) (h : Falls L) : okL L = true := by
  unfold okL polOk
  rw [decide_eq_true_eq]
  refine ⟨hl, fun i hi => ?_⟩
  have h1 := h.2 (L[i]) (List.getElem_mem hi)
  simp only [okAt, Bool.and_eq_true, Bool.or_eq_true, decide_eq_true_eq]
  rw [lf_eq hi]
  refine ⟨⟨h1.2, h1.1⟩, ?_⟩
  by_cases h0 : i = 0
  · exact .inl h0
  · refine .inr ?_
    have hi1 : i - 1 < L.length := by omega
    rw [lf_eq hi1]
    exact (ord_pos (h.2 _ (List.getElem_mem hi1)).1 h1.1).2 ((List.pairwise_iff_getElem.1 h.1) (i - 1) i hi1 hi (by omega))
theorem okL_nil : okL [] = true := okL_of (by simp) falls_nil
/-! sums -/
theorem addL_len (L K : List T) : (addL L K).length ≤ L.length + K.length := by have := addT_len (lf L) L.length (lf K) K.length 0 0; simpa [addL] using this
def addV (L K : List T) : List T × Bool := polAdd (lf L) L.length (lf K) K.length
theorem addV_ok {L K : List T} (hL : okL L = true) (hK : okL K = true) (h : (addL L K).length ≤ 400) : addV L K = (addL L K, true) := if_pos ⟨hL, hK, h⟩
theorem addV_case (L K : List T) : addV L K = ([], false) ∨ (okL L = true ∧ okL K = true ∧ (addL L K).length ≤ 400 ∧ addV L K = (addL L K, true)) := by
  by_cases h : okL L = true ∧ okL K = true ∧ (addL L K).length ≤ 400
  · exact .inr ⟨h.1, h.2.1, h.2.2, if_pos h⟩
  · exact .inl (if_neg h)
theorem coef_nil (m : M) : coef [] m = 0 := rfl
/-! so many times -/
def scL (c : Int) (L : List T) : List T := scT c (lf L) L.length
theorem scL_len (c : Int) (L : List T) : (scL c L).length = L.length := scT_len _ _ _
theorem scL_map (c : Int) (L : List T) : scL c L = L.map (fun t => ⟨c * t.c % 101, t.m⟩) := by
  refine List.ext_getElem (by simp [scL_len]) (fun i h1 h2 => ?_)
  have hi : i < L.length := by rw [scL_len] at h1; exact h1
  rw [← lf_eq h1, scL, lf_scT _ _ _ _ hi, lf_eq hi]
  simp
theorem scL_falls {c : Int} {L : List T} (c1 : 1 ≤ c) (c2 : c ≤ 100) (h : Falls L) : Falls (scL c L) := by
  rw [scL_map]
  refine ⟨by rw [List.pairwise_map]; exact h.1, fun t ht => ?_⟩
  obtain ⟨s, hs, rfl⟩ := List.mem_map.1 ht
  have hr := h.2 s hs
  have hne := fMul_ne (a := c) (b := s.c) (by omega) (by omega) (by omega) (by omega)
  rw [fMul_in (by omega) c2 (by omega) hr.2.2] at hne
  exact ⟨hr.1, by show 1 ≤ c * s.c % 101; omega, by show c * s.c % 101 ≤ 100; omega⟩
theorem scL_coef (c : Int) (m : M) : ∀ L : List T, coef (scL c L) m = c * coef L m % 101 := by
  intro L
  rw [scL_map]
  induction L with
  | nil => simp [coef]
  | cons t r ih =>
    rw [List.map_cons, coef, coef]
    split
    · rfl
    · exact ih
def scV (c : Int) (L : List T) : List T := polScale c (lf L) L.length
theorem scV_is {c : Int} {L : List T} (c1 : 1 ≤ c) (c2 : c ≤ 100) (h : okL L = true) : scV c L = scL c L := if_pos ⟨by omega, h, by omega⟩
theorem scV_zero (L : List T) : scV 0 L = [] := if_neg (fun h => h.2.2 rfl)
theorem scV_bad {c : Int} {L : List T} (h : okL L = false) : scV c L = [] := if_neg (fun hh => by rw [show polOk L.length (lf L) = false from h] at hh; simp at hh)
theorem scV_out {c : Int} {L : List T} (h : ¬ (0 ≤ c ∧ c ≤ 100)) : scV c L = [] := if_neg (fun hh => h hh.1)
theorem scV_facts {c : Int} {L : List T} (c1 : 0 ≤ c) (c2 : c ≤ 100) (h : okL L = true) : Falls (scV c L) ∧ (∀ m, coef (scV c L) m = c * coef L m % 101) ∧ (scV c L).length ≤ L.length := by
  by_cases h0 : c = 0
  · subst h0
    rw [scV_zero]
    exact ⟨falls_nil, fun m => by simp [coef], by simp⟩
  · rw [scV_is (by omega) c2 h]
    exact ⟨scL_falls (by omega) c2 (okL_falls h).2, fun m => scL_coef c m L, by rw [scL_len]; omega⟩
/-! differences -/
def subL (L K : List T) : List T := addL L (scL 100 K)
def subV (L K : List T) : List T × Bool := polSub (lf L) L.length (lf K) K.length
theorem subT_is (L K : List T) : addT (lf L) L.length (negT (lf K) K.length) K.length 0 0 = subL L K := by
  unfold subL addL
  rw [scL_len]
  rfl
theorem subV_ok {L K : List T} (hL : okL L = true) (hK : okL K = true) (h : (subL L K).length ≤ 400) : subV L K = (subL L K, true) := by
  unfold subV polSub
  rw [subT_is]
  exact if_pos ⟨hL, hK, h⟩
theorem subV_case (L K : List T) : subV L K = ([], false) ∨ (okL L = true ∧ okL K = true ∧ (subL L K).length ≤ 400 ∧ subV L K = (subL L K, true)) := by
  by_cases h : okL L = true ∧ okL K = true ∧ (subL L K).length ≤ 400
  · exact .inr ⟨h.1, h.2.1, h.2.2, subV_ok h.1 h.2.1 h.2.2⟩
  · refine .inl ?_
    unfold subV polSub
    rw [subT_is]
    exact if_neg h
theorem subL_len (L K : List T) : (subL L K).length ≤ L.length + K.length := by have := addL_len L (scL 100 K); rw [scL_len] at this; exact this
theorem subL_facts {L K : List T} (hL : Falls L) (hK : Falls K) : Falls (subL L K) ∧ ∀ m, coef (subL L K) m = (coef L m + 100 * coef K m % 101) % 101 := by
  have h := addL_facts hL (scL_falls (c := 100) (by omega) (by omega) hK)
  refine ⟨h.1, fun m => ?_⟩
  show coef (addL L (scL 100 K)) m = _
  rw [h.2, scL_coef]
theorem sub_back {L K : List T} (hL : Falls L) (hK : Falls K) : addL (subL L K) K = L := by
  have h1 := subL_facts hL hK
  have h2 := addL_facts h1.1 hK
  refine falls_one h2.1 hL (fun m _ => ?_)
  have r1 := coef_range hL m
  have r2 := coef_range hK m
  rw [h2.2, h1.2]
  omega
theorem sub_self {L : List T} (hL : Falls L) : subL L L = [] := by
  have h1 := subL_facts hL hL
  refine falls_one h1.1 falls_nil (fun m _ => ?_)
  have r1 := coef_range hL m
  rw [h1.2, coef_nil]
  omega
theorem sub_nil_iff {L K : List T} (hL : Falls L) (hK : Falls K) : subL L K = [] ↔ L = K := by
  constructor
  · intro h
    have h1 := subL_facts hL hK
    refine falls_one hL hK (fun m _ => ?_)
    have h2 := h1.2 m
    rw [h, coef_nil] at h2
    have r1 := coef_range hL m
    have r2 := coef_range hK m
    omega
  · intro h
    rw [h]
    exact sub_self hK
theorem addL_comm {L K : List T} (hL : Falls L) (hK : Falls K) : addL L K = addL K L := by
  have h1 := addL_facts hL hK
  have h2 := addL_facts hK hL
  refine falls_one h1.1 h2.1 (fun m _ => ?_)
  rw [h1.2, h2.2, Int.add_comm]
theorem addL_nil {L : List T} (hL : Falls L) : addL L [] = L := by
  have h1 := addL_facts hL falls_nil
  refine falls_one h1.1 hL (fun m _ => ?_)
  have r1 := coef_range hL m
  rw [h1.2, coef_nil]
  omega
theorem addL_assoc {L K X : List T} (hL : Falls L) (hK : Falls K) (hX : Falls X) : addL (addL L K) X = addL L (addL K X) := by
  have h1 := addL_facts hL hK
  have h2 := addL_facts h1.1 hX
  have h3 := addL_facts hK hX
  have h4 := addL_facts hL h3.1
  refine falls_one h2.1 h4.1 (fun m _ => ?_)
  rw [h2.2, h1.2, h4.2, h3.2]
  omega
/-- whether lists are the same, as it is looked at. -/
def sq (L K : List T) : Bool := termsEq L.length (lf L) K.length (lf K)
theorem sq_same (L : List T) : sq L L = true := termsEq_same _ _
theorem sq_iff {L K : List T} : sq L K = true ↔ L = K := by
  constructor
  · intro ht
    simp only [sq, termsEq, decide_eq_true_eq] at ht
    refine List.ext_getElem ht.1 (fun i h1 h2 => ?_)
    have := ht.2 i h1
    rw [lf_eq h1, lf_eq h2] at this
    exact T.eqB_iff.1 this
  · intro h
    rw [h]
    exact sq_same K
theorem sq_comm (L K : List T) : sq L K = sq K L := by
  cases h : sq L K
  · cases h2 : sq K L
    · rfl
    · rw [sq_iff.1 h2, sq_same] at h
      cases h
  · rw [sq_iff.1 h, sq_same]
end Go.Proofs.YtoglomfejgpoeaaGreatDoor
namespace Go.Proofs.YtoglomfejgpoeaaGreatDoor
open Go.RowKit
set_option linter.unusedVariables false

/-- an operator and a truth are handed back. -/
def Two2 (w : World) (X : List T × Bool) (e : Ending) (w' : World) : Prop := ∃ a' c', e = .returned (.tuple #[.slice a' X.1.length c', .bool X.2]) ∧ Below w.heap.size w w' ∧ RL w' a' c' X.1
def One1 (w : World) (X : List T) (e : Ending) (w' : World) : Prop := ∃ a' c', e = .returned (.slice a' X.length c') ∧ Below w.heap.size w w' ∧ RL w' a' c' X
def Val (w : World) (v : Value) (e : Ending) (w' : World) : Prop := e = .returned v ∧ Below w.heap.size w w'
theorem rd_congr {w : World} {a : Option Addr} {n cap : Nat} {f g : Nat → T} (h : Rd w a n cap f) (e : ∀ i, i < n → f i = g i) : Rd w a n cap g :=
  ⟨h.1, h.2.1, h.2.2.imp id (fun ⟨b, off, h1, h2, h3⟩ => ⟨b, off, h1, h2, fun i hi => by rw [← e i hi]; exact h3 i hi⟩)⟩
theorem one_RL (w : World) (t : T) : RL (w.alloc (.cells #[.int .i64 t.c, .int .i64 t.m.x, .int .i64 t.m.y, .int .i64 t.m.d, .int .i64 t.m.e] 80)) (some ⟨w.heap.size, 0, none⟩) 1 [t] :=
  rd_congr (n := 1) (g := lf [t]) (rd_one w t) (fun i hi => by
    have h0 : i = 0 := by omega
    subst h0
    rfl)
theorem two_out {w : World} {X : List T × Bool} {e : Ending} {w' : World} (h : ∃ a' cap', e = .returned (.tuple #[.slice a' X.1.length cap', .bool X.2]) ∧ Below w.heap.size w w' ∧ Out w.heap.size w' a' cap' X.1) : Two2 w X e w' := by
  obtain ⟨a', c', h1, h2, h3⟩ := h
  exact ⟨a', c', h1, h2, h3.1⟩
theorem two_owns {w : World} {X : List T × Bool} {e : Ending} {w' : World} (hl : X.1.length ≤ 400) (h : ∃ v, e = .returned (.tuple #[v, .bool X.2]) ∧ Below w.heap.size w w' ∧ w'.ownsRow w.heap.size 80 5 v X.1.length (cellsL X.1)) : Two2 w X e w' := by
  obtain ⟨v, h1, h2, h3⟩ := h
  obtain ⟨a', c', rfl, h4⟩ := out_of_owns h3 (by omega)
  exact ⟨a', c', h1, h2, h4.1⟩
theorem one_owns {w : World} {X : List T} {e : Ending} {w' : World} (hl : X.length ≤ 400) (h : ∃ v, e = .returned v ∧ Below w.heap.size w w' ∧ w'.ownsRow w.heap.size 80 5 v X.length (cellsL X)) : One1 w X e w' := by
  obtain ⟨v, h1, h2, h3⟩ := h
  obtain ⟨a', c', rfl, h4⟩ := out_of_owns h3 (by omega)
  exact ⟨a', c', h1, h2, h4.1⟩
variable {w : World} {a b : Option Addr} {ca cb : Nat} {L K : List T}
theorem addI_L (ha : RL w a ca L) (hb : RL w b cb K) : Calls Tryz.prog 38 #[.slice a L.length ca, .slice b K.length cb] w (Two2 w (addV L K)) :=
  (polAddI w a b L.length ca K.length cb (lf L) (lf K) ha hb).mono fun _ _ h => two_out h
theorem addS_L (ha : RL w a ca L) (hb : RL w b cb K) : Calls Tryz.prog 53 #[.slice a L.length ca, .slice b K.length cb] w (Two2 w (addV L K)) :=
  (polAddS w a b L.length ca K.length cb (lf L) (lf K) ha hb).mono fun _ _ h => two_owns (polAdd_len _ _ _ _) h
theorem subI_L (ha : RL w a ca L) (hb : RL w b cb K) : Calls Tryz.prog 81 #[.slice a L.length ca, .slice b K.length cb] w (Two2 w (subV L K)) :=
  (polSubI w a b L.length ca K.length cb (lf L) (lf K) ha hb).mono fun _ _ h => two_out h
theorem okI_L (ha : RL w a ca L) : Calls Tryz.prog 44 #[.slice a L.length ca] w (Val w (.bool (okL L))) := polOkI w a L.length ca (lf L) ha
theorem okS_L (ha : RL w a ca L) : Calls Tryz.prog 74 #[.slice a L.length ca] w (Val w (.bool (okL L))) := polOkS w a L.length ca (lf L) ha
theorem he_L (ha : RL w a ca L) (hb : RL w b cb K) : Calls Tryz.prog 35 #[.slice a L.length ca, .slice b K.length cb] w (Val w (.bool (sq L K))) := heSameT w a b L.length ca K.length cb (lf L) (lf K) ha hb
def freeL (L : List T) : Bool := polFree L.length (lf L)
theorem freeI_L (ha : RL w a ca L) : Calls Tryz.prog 82 #[.slice a L.length ca] w (Val w (.bool (freeL L))) := polFreeI w a L.length ca (lf L) ha
theorem freeS_L (ha : RL w a ca L) : Calls Tryz.prog 100 #[.slice a L.length ca] w (Val w (.bool (freeL L))) := polFreeS w a L.length ca (lf L) ha
set_option maxHeartbeats 1000000 in
theorem heOk_L (w : World) : Calls Tryz.prog 37 #[] w (Val w (.bool true)) := by
  have h1 : ∀ u : World, Calls Tryz.prog 77 #[] u fun e w' => e = .returned (.slice (some ⟨u.heap.size, 0, none⟩) 1 1) ∧ Below u.heap.size u w' ∧ RL w' (some ⟨u.heap.size, 0, none⟩) 1 [⟨1, ⟨0, 0, 0, 0⟩⟩] := fun u => by
    go_enter Tryz.func77, Tryz.ntmps77
    go_wp2
    go_ret
    exact ⟨rfl, bel_one u _, one_RL u ⟨1, ⟨0, 0, 0, 0⟩⟩⟩
  have h2 : okL [⟨1, ⟨0, 0, 0, 0⟩⟩] = true := by decide
  go_enter Tryz.func37, Tryz.ntmps37
  go_wp2_with fail
  refine (h1 _).mono ?_
  rintro e w1 ⟨rfl, hb1, hr1⟩
  have HR1 := Hid.mk' hr1
  have HB1 := Hid.mk' hb1
  clear hr1 hb1
  go_wp2_with fail
  refine (okI_L HR1.out).mono ?_
  rw [h2]
  rintro e w2 ⟨rfl, hb2⟩
  go_wp2
  go_ret
  exact ⟨rfl, bel_next HB1.out hb2⟩
end Go.Proofs.YtoglomfejgpoeaaGreatDoor
