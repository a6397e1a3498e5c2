/-
  Operators as lists: sums, differences, so many times, the most that is counted.
  A monomial's rank: what is made on the way lies behind what was there, and draws only rise.
  The closure by which a sum's monomials are put in order.
-/
import Derived.Test.YtddfpjjeoojlmaaGaj
import Derived.Test.YtddfpjjeoojlmaaGak
import Derived.Test.YtddfpjjeoojlmaaGai
import Derived.Test.YtddfpjjeoojlmaaGad
import Derived.Sort.Row
import Derived.Shelf.SlSortCmp.QuietGrown
import Derived.Test.YtddfpjjeoojlmaaGah
namespace Go.Proofs.Ytddfpjjeoojlmaa
open Go.RowKit
set_option linter.unusedVariables false

/-- a slice of terms, as a list. -/
def RL (w : World) (a : Option Addr) (c : Nat) (L : List T) : Prop := Rd w a L.length c (lf L)
theorem RL.below {w w' : World} {a : Option Addr} {c : Nat} {L : List T} (h : RL w a c L) (hb : Below w.heap.size w w') : RL w' a c L := Rd.below h hb
theorem lf_eq {L : List T} {i : Nat} (h : i < L.length) : lf L i = L[i] := by unfold lf; rw [List.getD_eq_getElem?_getD, List.getElem?_eq_getElem h]; rfl
theorem list_of {w : World} {a : Option Addr} {n cap : Nat} {f : Nat → T} (h : Rd w a n cap f) : ∃ L : List T, n = L.length ∧ RL w a cap L := by
  refine ⟨(List.range n).map f, by simp, ?_⟩
  have e : ((List.range n).map f).length = n := by simp
  have hf : ∀ i, i < n → lf ((List.range n).map f) i = f i := fun i hi => by rw [lf_eq (by simpa using hi)]; simp
  unfold RL
  rw [e]
  refine ⟨h.1, h.2.1, ?_⟩
  rcases h.2.2 with h0 | ⟨b, off, he, hlt, hc⟩
  · exact .inl h0
  · exact .inr ⟨b, off, he, hlt, fun i hi => by rw [hf i hi]; exact hc i hi⟩
def okL (L : List T) : Bool := polOk L.length (lf L)
theorem okL_falls {L : List T} (h : okL L = true) : L.length ≤ 400 ∧ Falls L := by
  have hF := fl_of_ok h
  have hl : L.length ≤ 400 := by unfold okL at h; simp only [polOk, decide_eq_true_eq] at h; exact h.1
  refine ⟨hl, List.pairwise_iff_getElem.2 (fun i j hi hj hij => ?_), fun t ht => ?_⟩
  · have := hF.1 i j hij hj
    rwa [lf_eq hi, lf_eq hj] at this
  · obtain ⟨i, hi, rfl⟩ := List.mem_iff_getElem.1 ht
    have := hF.2 i hi
    rwa [lf_eq hi] at this
theorem okL_of {L : List T} (hl : L.length ≤ 400) (h : Falls L) : okL L = true := by
  unfold okL polOk
  rw [decide_eq_true_eq]
  refine ⟨hl, fun i hi => ?_⟩
  have h1 := h.2 (L[i]) (List.getElem_mem hi)
  simp only [okAt, Bool.and_eq_true, Bool.or_eq_true, decide_eq_true_eq]
  rw [lf_eq hi]
  refine ⟨⟨h1.2, h1.1⟩, ?_⟩
  by_cases h0 : i = 0
  · exact .inl h0
  · refine .inr ?_
    have hi1 : i - 1 < L.length := by omega
    rw [lf_eq hi1]
    exact (ord_pos (h.2 _ (List.getElem_mem hi1)).1 h1.1).2 ((List.pairwise_iff_getElem.1 h.1) (i - 1) i hi1 hi (by omega))
theorem okL_nil : okL [] = true := okL_of (by simp) falls_nil
/-! sums -/
theorem addL_len (L K : List T) : (addL L K).length ≤ L.length + K.length := by have := addT_len (lf L) L.length (lf K) K.length 0 0; simpa [addL] using this
def addV (L K : List T) : List T × Bool := polAdd (lf L) L.length (lf K) K.length
theorem addV_ok {L K : List T} (hL : okL L = true) (hK : okL K = true) (h : (addL L K).length ≤ 400) : addV L K = (addL L K, true) := if_pos ⟨hL, hK, h⟩
theorem addV_case (L K : List T) : addV L K = ([], false) ∨ (okL L = true ∧ okL K = true ∧ (addL L K).length ≤ 400 ∧ addV L K = (addL L K, true)) := by
  by_cases h : okL L = true ∧ okL K = true ∧ (addL L K).length ≤ 400
  · exact .inr ⟨h.1, h.2.1, h.2.2, if_pos h⟩
  · exact .inl (if_neg h)
theorem coef_nil (m : M) : coef [] m = 0 := rfl
/-! so many times -/
def scL (c : Int) (L : List T) : List T := scT c (lf L) L.length
theorem scL_len (c : Int) (L : List T) : (scL c L).length = L.length := scT_len _ _ _
theorem scL_map (c : Int) (L : List T) : scL c L = L.map (fun t => ⟨c * t.c % 101, t.m⟩) := by
  refine List.ext_getElem (by simp [scL_len]) (fun i h1 h2 => ?_)
  have hi : i < L.length := by rw [scL_len] at h1; exact h1
  rw [← lf_eq h1, scL, lf_scT _ _ _ _ hi, lf_eq hi]
  simp
theorem scL_falls {c : Int} {L : List T} (c1 : 1 ≤ c) (c2 : c ≤ 100) (h : Falls L) : Falls (scL c L) := by
  rw [scL_map]
  refine ⟨by rw [List.pairwise_map]; exact h.1, fun t ht => ?_⟩
  obtain ⟨s, hs, rfl⟩ := List.mem_map.1 ht
  have hr := h.2 s hs
  have hne := fMul_ne (a := c) (b := s.c) (by omega) (by omega) (by omega) (by omega)
  rw [fMul_in (by omega) c2 (by omega) hr.2.2] at hne
  exact ⟨hr.1, by show 1 ≤ c * s.c % 101; omega, by show c * s.c % 101 ≤ 100; omega⟩
theorem scL_coef (c : Int) (m : M) : ∀ L : List T, coef (scL c L) m = c * coef L m % 101 := by
  intro L
  rw [scL_map]
  induction L with
  | nil => simp [coef]
  | cons t r ih =>
    rw [List.map_cons, coef, coef]
    split
    · rfl
    · exact ih
def scV (c : Int) (L : List T) : List T := polScale c (lf L) L.length
theorem scV_is {c : Int} {L : List T} (c1 : 1 ≤ c) (c2 : c ≤ 100) (h : okL L = true) : scV c L = scL c L := if_pos ⟨by omega, h, by omega⟩
theorem scV_zero (L : List T) : scV 0 L = [] := if_neg (fun h => h.2.2 rfl)
theorem scV_bad {c : Int} {L : List T} (h : okL L = false) : scV c L = [] := if_neg (fun hh => by rw [show polOk L.length (lf L) = false from h] at hh; simp at hh)
theorem scV_out {c : Int} {L : List T} (h : ¬ (0 ≤ c ∧ c ≤ 100)) : scV c L = [] := if_neg (fun hh => h hh.1)
theorem scV_facts {c : Int} {L : List T} (c1 : 0 ≤ c) (c2 : c ≤ 100) (h : okL L = true) : Falls (scV c L) ∧ (∀ m, coef (scV c L) m = c * coef L m % 101) ∧ (scV c L).length ≤ L.length := by
  by_cases h0 : c = 0
  · subst h0
    rw [scV_zero]
    exact ⟨falls_nil, fun m => by simp [coef], by simp⟩
  · rw [scV_is (by omega) c2 h]
    exact ⟨scL_falls (by omega) c2 (okL_falls h).2, fun m => scL_coef c m L, by rw [scL_len]; omega⟩
/-! differences -/
def subL (L K : List T) : List T := addL L (scL 100 K)
def subV (L K : List T) : List T × Bool := polSub (lf L) L.length (lf K) K.length
theorem subT_is (L K : List T) : addT (lf L) L.length (negT (lf K) K.length) K.length 0 0 = subL L K := by
  unfold subL addL
  rw [scL_len]
  rfl
theorem subV_ok {L K : List T} (hL : okL L = true) (hK : okL K = true) (h : (subL L K).length ≤ 400) : subV L K = (subL L K, true) := by
  unfold subV polSub
  rw [subT_is]
  exact if_pos ⟨hL, hK, h⟩
theorem subV_case (L K : List T) : subV L K = ([], false) ∨ (okL L = true ∧ okL K = true ∧ (subL L K).length ≤ 400 ∧ subV L K = (subL L K, true)) := by
  by_cases h : okL L = true ∧ okL K = true ∧ (subL L K).length ≤ 400
  · exact .inr ⟨h.1, h.2.1, h.2.2, subV_ok h.1 h.2.1 h.2.2⟩
  · refine .inl ?_
    unfold subV polSub
    rw [subT_is]
    exact if_neg h
theorem subL_len (L K : List T) : (subL L K).length ≤ L.length + K.length := by have := addL_len L (scL 100 K); rw [scL_len] at this; exact this
theorem subL_facts {L K : List T} (hL : Falls L) (hK : Falls K) : Falls (subL L K) ∧ ∀ m, coef (subL L K) m = (coef L m + 100 * coef K m % 101) % 101 := by
  have h := addL_facts hL (scL_falls (c := 100) (by omega) (by omega) hK)
  refine ⟨h.1, fun m => ?_⟩
  show coef (addL L (scL 100 K)) m = _
  rw [h.2, scL_coef]
theorem sub_back {L K : List T} (hL : Falls L) (hK : Falls K) : addL (subL L K) K = L := by
  have h1 := subL_facts hL hK
  have h2 := addL_facts h1.1 hK
  refine falls_one h2.1 hL (fun m _ => ?_)
  have r1 := coef_range hL m
  have r2 := coef_range hK m
  rw [h2.2, h1.2]
  omega
theorem sub_self {L : List T} (hL : Falls L) : subL L L = [] := by
  have h1 := subL_facts hL hL
  refine falls_one h1.1 falls_nil (fun m _ => ?_)
  have r1 := coef_range hL m
  rw [h1.2, coef_nil]
  omega
theorem sub_nil_iff {L K : List T} (hL : Falls L) (hK : Falls K) : subL L K = [] ↔ L = K := by
  constructor
  · intro h
    have h1 := subL_facts hL hK
    refine falls_one hL hK (fun m _ => ?_)
    have h2 := h1.2 m
    rw [h, coef_nil] at h2
    have r1 := coef_range hL m
    have r2 := coef_range hK m
    omega
  · intro h
    rw [h]
    exact sub_self hK
theorem addL_comm {L K : List T} (hL : Falls L) (hK : Falls K) : addL L K = addL K L := by
  have h1 := addL_facts hL hK
  have h2 := addL_facts hK hL
  refine falls_one h1.1 h2.1 (fun m _ => ?_)
  rw [h1.2, h2.2, Int.add_comm]
theorem addL_nil {L : List T} (hL : Falls L) : addL L [] = L := by
  have h1 := addL_facts hL falls_nil
  refine falls_one h1.1 hL (fun m _ => ?_)
  have r1 := coef_range hL m
  rw [h1.2, coef_nil]
  omega
theorem addL_assoc {L K X : List T} (hL : Falls L) (hK : Falls K) (hX : Falls X) : addL (addL L K) X = addL L (addL K X) := by
  have h1 := addL_facts hL hK
  have h2 := addL_facts h1.1 hX
  have h3 := addL_facts hK hX
  have h4 := addL_facts hL h3.1
  refine falls_one h2.1 h4.1 (fun m _ => ?_)
  rw [h2.2, h1.2, h4.2, h3.2]
  omega
/-- whether lists are the same, as it is looked at. -/
def sq (L K : List T) : Bool := termsEq L.length (lf L) K.length (lf K)
theorem sq_same (L : List T) : sq L L = true := termsEq_same _ _
theorem sq_iff {L K : List T} : sq L K = true ↔ L = K := by
  constructor
  · intro ht
    simp only [sq, termsEq, decide_eq_true_eq] at ht
    refine List.ext_getElem ht.1 (fun i h1 h2 => ?_)
    have := ht.2 i h1
    rw [lf_eq h1, lf_eq h2] at this
    exact T.eqB_iff.1 this
  · intro h
    rw [h]
    exact sq_same K
theorem sq_comm (L K : List T) : sq L K = sq K L := by
  cases h : sq L K
  · cases h2 : sq K L
    · rfl
    · rw [sq_iff.1 h2, sq_same] at h
      cases h
  · rw [sq_iff.1 h, sq_same]
end Go.Proofs.Ytddfpjjeoojlmaa
namespace Go.Proofs.Ytddfpjjeoojlmaa
open Go.RowKit Go.Sort
set_option linter.unusedVariables false

/-- u grew out of w: all that lay in w lies there, and draws rose. -/
structure Gr (w u : World) : Prop where
  below : Below w.heap.size w u
  drawn : w.drawn ≤ u.drawn
theorem Gr.refl (w : World) : Gr w w := ⟨Below.refl _ _, Nat.le_refl _⟩
theorem Gr.trans {a b c : World} (h : Gr a b) (k : Gr b c) : Gr a c := ⟨h.below.trans (k.below.mono h.below.size), Nat.le_trans h.drawn k.drawn⟩
theorem Gr.alloc (w : World) (o : Obj) : Gr w (w.alloc o) := ⟨bel_one w o, by simp⟩
theorem Gr.drew (w : World) : Gr w w.drew := ⟨(Below.refl _ _).drew, by simp⟩
theorem Gr.form {w u : World} (h : Gr w u) : ∃ q os, u = grow (w.drewN q) os := by
  refine ⟨u.drawn - w.drawn, u.heap.extract w.heap.size u.heap.size, ?_⟩
  obtain ⟨⟨h1, h2, h3, h4, h5⟩, h6⟩ := h
  cases u with
  | mk heap tape drawn os output =>
    simp only at h1 h2 h3 h4 h5 h6
    subst h1 h2 h3
    have hh : w.heap ++ heap.extract w.heap.size heap.size = heap := by
      apply Array.ext_getElem?
      intro i
      by_cases hi : i < w.heap.size
      · rw [Array.getElem?_append_left hi, h5 i hi]
      · rw [Array.getElem?_append_right (by omega), Array.getElem?_extract]
        split
        · congr 1; omega
        · exact (Array.getElem?_eq_none (by omega)).symm
    have hd : w.drawn + (drawn - w.drawn) = drawn := by omega
    simp only [grow, World.drewN]
    rw [hh, hd]
def ExtG (w : World) : Type := Subtype (fun u : World => Gr w u)
theorem ExtG.there (w : World) : Nonempty (ExtG w) := ⟨⟨w, Gr.refl _⟩⟩
theorem wp_region_extG {P : Program} {id : Nat} {Q : Exit → Act → World → Prop} {a : Act} {w : World} {l : List Oper} (hm : P.follows .mixedOrders = true) (hB : Region.lexB .any l.toArray = true)
    (h : wpQuiet P l.toArray (fun u => ∃ x : ExtG w, u = x.1) (fun a' => ∀ w', (∃ x : ExtG w, w' = x.1) → Q .normal a' w') l a) : (Code.region id l.toArray true).wp P Q a w :=
  wp_region_quiet (C := fun u => ∃ x : ExtG w, u = x.1) hm hB ⟨⟨_, Gr.drew _⟩, rfl⟩ (by simpa using h)
theorem extG_same {P : Program} {f : FuncId} {args : Array Value} {w : World} {x : ExtG w} {v : Value}
    (h : Calls P f args x.1 fun e w' => e = .returned v ∧ w' = x.1) : Calls P f args x.1 fun e w'' => e = .returned v ∧ ∃ y : ExtG w, w'' = y.1 :=
  h.mono fun _ _ ⟨he, hm⟩ => ⟨he, x, hm⟩
theorem extG_grows {P : Program} {f : FuncId} {args : Array Value} {w : World} {x : ExtG w} {v : Value}
    (h : Calls P f args x.1 fun e w' => e = .returned v ∧ Gr x.1 w') : Calls P f args x.1 fun e w'' => e = .returned v ∧ ∃ y : ExtG w, w'' = y.1 :=
  h.mono fun _ w' ⟨he, hm⟩ => ⟨he, ⟨w', x.2.trans hm⟩, rfl⟩
theorem extG_box {w : World} {t : TypeId} (cs : Array Value) (k : Nat) (v : Value) (h : cs[k]? = some v) : ∀ u : ExtG (w.alloc (.cells cs t)), u.1.cell? ⟨w.heap.size, k, none⟩ = some v := fun u => by
  have := ext_box (w := w) (t := t) cs k v h ⟨u.1, u.2.below⟩
  exact this
set_option maxHeartbeats 400000 in
theorem degreeG (x y d e : Int) (w : World) (h : M.ok ⟨x, y, d, e⟩ = true) :
    Calls Try.prog 56 #[.agg #[.int .i64 x, .int .i64 y, .int .i64 d, .int .i64 e]] w fun r w' => r = .returned (.int .i64 (x + y + d + e)) ∧ Gr w w' := by
  obtain ⟨x1, x2, y1, y2, d1, d2, e1, e2⟩ := M.ok_iff.1 h
  simp only at x1 x2 y1 y2 d1 d2 e1 e2
  clear h
  go_enter Try.func56, Try.ntmps56
  go_wp2
  go_ret
  exact ⟨rfl, Gr.alloc w _⟩
set_option maxHeartbeats 400000 in
theorem rankLexG (x y d e : Int) (w : World) (h : M.ok ⟨x, y, d, e⟩ = true) :
    Calls Try.prog 65 #[.agg #[.int .i64 x, .int .i64 y, .int .i64 d, .int .i64 e]] w fun r w' => r = .returned (.int .i64 (rkL ⟨x, y, d, e⟩)) ∧ Gr w w' := by
  obtain ⟨x1, x2, y1, y2, d1, d2, e1, e2⟩ := M.ok_iff.1 h
  simp only at x1 x2 y1 y2 d1 d2 e1 e2
  clear h
  simp only [rkL]
  go_enter Try.func65, Try.ntmps65
  go_wp2
  go_ret
  exact ⟨rfl, Gr.alloc w _⟩
set_option maxHeartbeats 1000000 in
theorem rankDegG (x y d e : Int) (w : World) (h : M.ok ⟨x, y, d, e⟩ = true) :
    Calls Try.prog 48 #[.agg #[.int .i64 x, .int .i64 y, .int .i64 d, .int .i64 e]] w fun r w' => r = .returned (.int .i64 (rkD ⟨x, y, d, e⟩)) ∧ Gr w w' := by
  obtain ⟨x1, x2, y1, y2, d1, d2, e1, e2⟩ := M.ok_iff.1 h
  simp only at x1 x2 y1 y2 d1 d2 e1 e2
  have HK := Hid.mk' h
  have k1 : 0 ≤ rkL ⟨x, y, d, e⟩ := by simp only [rkL]; omega
  have k2 : rkL ⟨x, y, d, e⟩ ≤ 65535 := by simp only [rkL]; omega
  have r1 : rkD ⟨x, y, d, e⟩ = (x + y + d + e) * 65536 + rkL ⟨x, y, d, e⟩ := rfl
  rw [r1]
  clear h r1
  go_enter Try.func48, Try.ntmps48
  go_wp2_with fail
  have B1 := Hid.mk' (Gr.alloc w (.cells #[.int .i64 x, .int .i64 y, .int .i64 d, .int .i64 e] 33))
  have ne := ExtG.there (w.alloc (.cells #[.int .i64 x, .int .i64 y, .int .i64 d, .int .i64 e] 33))
  have s0 := extG_box (w := w) (t := 33) #[.int .i64 x, .int .i64 y, .int .i64 d, .int .i64 e] 0 _ rfl
  have s1 := extG_box (w := w) (t := 33) #[.int .i64 x, .int .i64 y, .int .i64 d, .int .i64 e] 1 _ rfl
  have s2 := extG_box (w := w) (t := 33) #[.int .i64 x, .int .i64 y, .int .i64 d, .int .i64 e] 2 _ rfl
  have s3 := extG_box (w := w) (t := 33) #[.int .i64 x, .int .i64 y, .int .i64 d, .int .i64 e] 3 _ rfl
  refine wp_region_extG (by kernel_rfl) (by kernel_rfl) ?_
  repeat (go_big_quiet_step (first | (go_at_call 56; exact extG_grows (degreeG _ _ _ _ _ HK.out)) | (go_at_call 65; exact extG_grows (rankLexG _ _ _ _ _ HK.out))))
  refine wpQuiet_nil ?_
  rintro _ ⟨u, rfl⟩
  go_wp2
  go_ret
  exact ⟨rfl, B1.out.trans u.2⟩
end Go.Proofs.Ytddfpjjeoojlmaa
namespace Go.Proofs.Ytddfpjjeoojlmaa
open Go.RowKit Go.Sort
set_option linter.unusedVariables false

theorem ExtG.cell {w : World} (x : ExtG w) {b o : Nat} (h : b < w.heap.size) : x.1.cell? ⟨b, o, none⟩ = w.cell? ⟨b, o, none⟩ := x.2.below.cell (p := ⟨b, o, none⟩) h
set_option maxHeartbeats 2000000 in
theorem cmpClosure (Br : Nat) (x y d e x' y' d' e' : Int) (w : World) (h : M.ok ⟨x, y, d, e⟩ = true) (h' : M.ok ⟨x', y', d', e'⟩ = true) (hB : Br < w.heap.size) (hr : w.cell? ⟨Br, 0, none⟩ = some (.func (.func 48) #[] #[])) :
    Calls Try.prog 74 #[.agg #[.int .i64 x, .int .i64 y, .int .i64 d, .int .i64 e], .agg #[.int .i64 x', .int .i64 y', .int .i64 d', .int .i64 e'], .pointer (some ⟨Br, 0, none⟩)] w fun r w' => r = .returned (.int .i64 (c3 (rkD ⟨x, y, d, e⟩) (rkD ⟨x', y', d', e'⟩))) ∧ Gr w w' := by
  have HA := Hid.mk' h
  have HB := Hid.mk' h'
  clear h h'
  go_enter Try.func74, Try.ntmps74
  go_wp2_with fail
  have B1 := Hid.mk' ((Gr.alloc w (.cells #[.int .i64 x, .int .i64 y, .int .i64 d, .int .i64 e] 33)).trans (Gr.alloc _ (.cells #[.int .i64 x', .int .i64 y', .int .i64 d', .int .i64 e'] 33)))
  have r0 : ((w.alloc (.cells #[.int .i64 x, .int .i64 y, .int .i64 d, .int .i64 e] 33)).alloc (.cells #[.int .i64 x', .int .i64 y', .int .i64 d', .int .i64 e'] 33)).cell? ⟨Br, 0, none⟩ = some (.func (.func 48) #[] #[]) := (B1.out.below.cell (p := ⟨Br, 0, none⟩) hB).trans hr
  have a0 : ((w.alloc (.cells #[.int .i64 x, .int .i64 y, .int .i64 d, .int .i64 e] 33)).alloc (.cells #[.int .i64 x', .int .i64 y', .int .i64 d', .int .i64 e'] 33)).cell? ⟨w.heap.size, 0, none⟩ = some (.int .i64 x) := by go_simp
  have a1 : ((w.alloc (.cells #[.int .i64 x, .int .i64 y, .int .i64 d, .int .i64 e] 33)).alloc (.cells #[.int .i64 x', .int .i64 y', .int .i64 d', .int .i64 e'] 33)).cell? ⟨w.heap.size, 1, none⟩ = some (.int .i64 y) := by go_simp
  have a2 : ((w.alloc (.cells #[.int .i64 x, .int .i64 y, .int .i64 d, .int .i64 e] 33)).alloc (.cells #[.int .i64 x', .int .i64 y', .int .i64 d', .int .i64 e'] 33)).cell? ⟨w.heap.size, 2, none⟩ = some (.int .i64 d) := by go_simp
  have a3 : ((w.alloc (.cells #[.int .i64 x, .int .i64 y, .int .i64 d, .int .i64 e] 33)).alloc (.cells #[.int .i64 x', .int .i64 y', .int .i64 d', .int .i64 e'] 33)).cell? ⟨w.heap.size, 3, none⟩ = some (.int .i64 e) := by go_simp
  have b0 : ((w.alloc (.cells #[.int .i64 x, .int .i64 y, .int .i64 d, .int .i64 e] 33)).alloc (.cells #[.int .i64 x', .int .i64 y', .int .i64 d', .int .i64 e'] 33)).cell? ⟨w.heap.size + 1, 0, none⟩ = some (.int .i64 x') := by go_simp
  have b1 : ((w.alloc (.cells #[.int .i64 x, .int .i64 y, .int .i64 d, .int .i64 e] 33)).alloc (.cells #[.int .i64 x', .int .i64 y', .int .i64 d', .int .i64 e'] 33)).cell? ⟨w.heap.size + 1, 1, none⟩ = some (.int .i64 y') := by go_simp
  have b2 : ((w.alloc (.cells #[.int .i64 x, .int .i64 y, .int .i64 d, .int .i64 e] 33)).alloc (.cells #[.int .i64 x', .int .i64 y', .int .i64 d', .int .i64 e'] 33)).cell? ⟨w.heap.size + 1, 2, none⟩ = some (.int .i64 d') := by go_simp
  have b3 : ((w.alloc (.cells #[.int .i64 x, .int .i64 y, .int .i64 d, .int .i64 e] 33)).alloc (.cells #[.int .i64 x', .int .i64 y', .int .i64 d', .int .i64 e'] 33)).cell? ⟨w.heap.size + 1, 3, none⟩ = some (.int .i64 e') := by go_simp
  have z : ((w.alloc (.cells #[.int .i64 x, .int .i64 y, .int .i64 d, .int .i64 e] 33)).alloc (.cells #[.int .i64 x', .int .i64 y', .int .i64 d', .int .i64 e'] 33)).heap.size = w.heap.size + 2 := by simp
  generalize (w.alloc (.cells #[.int .i64 x, .int .i64 y, .int .i64 d, .int .i64 e] 33)).alloc (.cells #[.int .i64 x', .int .i64 y', .int .i64 d', .int .i64 e'] 33) = wb at *
  have ne := ExtG.there wb
  have sr : ∀ u : ExtG wb, u.1.cell? ⟨Br, 0, none⟩ = some (.func (.func 48) #[] #[]) := fun u => (u.cell (by omega)).trans r0
  have s0 : ∀ u : ExtG wb, u.1.cell? ⟨w.heap.size, 0, none⟩ = some (.int .i64 x) := fun u => (u.cell (by omega)).trans a0
  have s1 : ∀ u : ExtG wb, u.1.cell? ⟨w.heap.size, 1, none⟩ = some (.int .i64 y) := fun u => (u.cell (by omega)).trans a1
  have s2 : ∀ u : ExtG wb, u.1.cell? ⟨w.heap.size, 2, none⟩ = some (.int .i64 d) := fun u => (u.cell (by omega)).trans a2
  have s3 : ∀ u : ExtG wb, u.1.cell? ⟨w.heap.size, 3, none⟩ = some (.int .i64 e) := fun u => (u.cell (by omega)).trans a3
  have t0 : ∀ u : ExtG wb, u.1.cell? ⟨w.heap.size + 1, 0, none⟩ = some (.int .i64 x') := fun u => (u.cell (by omega)).trans b0
  have t1 : ∀ u : ExtG wb, u.1.cell? ⟨w.heap.size + 1, 1, none⟩ = some (.int .i64 y') := fun u => (u.cell (by omega)).trans b1
  have t2 : ∀ u : ExtG wb, u.1.cell? ⟨w.heap.size + 1, 2, none⟩ = some (.int .i64 d') := fun u => (u.cell (by omega)).trans b2
  have t3 : ∀ u : ExtG wb, u.1.cell? ⟨w.heap.size + 1, 3, none⟩ = some (.int .i64 e') := fun u => (u.cell (by omega)).trans b3
  clear a0 a1 a2 a3 b0 b1 b2 b3 r0
  refine wp_region_extG (by kernel_rfl) (by kernel_rfl) ?_
  repeat (go_big_quiet_step (first | (go_at_call 75; exact extG_same (compareI _ _ _)) | (go_at_call_of 48 (Value.int IntKind.i64 x); exact extG_grows (rankDegG _ _ _ _ _ HA.out)) | (go_at_call 48; exact extG_grows (rankDegG _ _ _ _ _ HB.out))))
  refine wpQuiet_nil ?_
  rintro _ ⟨u, rfl⟩
  go_wp2
  go_ret
  exact ⟨rfl, B1.out.trans u.2⟩
end Go.Proofs.Ytddfpjjeoojlmaa
