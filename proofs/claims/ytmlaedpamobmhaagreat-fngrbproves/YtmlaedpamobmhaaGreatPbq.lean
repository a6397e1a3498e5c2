/-
  One more operator comes to the queue, with its pairs.
  A basis on its way, as lists: rows of proofs, a pair looked at, the run.
  Rows of proofs in the model: l9Row, l9Less.
-/
import Derived.Test.YtmlaedpamobmhaaGreatPbp
import Derived.Deep.RegionLaw
import Derived.Test.YtmlaedpamobmhaaGreatPbk
namespace Go.Proofs.YtmlaedpamobmhaaGreat
open Go.RowKit Go.Deep Go.Joins
set_option linter.unusedVariables false

theorem Fr.step {P P' : Nat → Prop} {a b c : World} (h : Fr P a b) (k : Fr P' b c) (hp : ∀ i, i < a.heap.size → P' i → P i) : Fr P a c :=
  ⟨k.os.trans h.os, k.tape.trans h.tape, k.output.trans h.output, Nat.le_trans h.size k.size, fun i hi hn => (k.block i (Nat.lt_of_lt_of_le hi h.size) (fun e => hn (hp i hi e))).trans (h.block i hi hn)⟩
end Go.Proofs.YtmlaedpamobmhaaGreat
namespace Go.Proofs.YtmlaedpamobmhaaGreat
open Go.RowKit Go.Deep Go.Joins
set_option linter.unusedVariables false

/-- one of a row, less an operator times another one. -/
def lessE (R q X : List T) : Option (List T) := match mulM (lf q) (lf X) X.length q.length with
  | some P => if (subL R P).length ≤ 400 then some (subL R P) else none
  | none => none
def updL (R : Nat → List T) (j : Nat) (Y : List T) (i : Nat) : List T := if i = j then Y else R i
/-- the first j of a row, less an operator times another row. -/
def lessR (row : Nat → List T) (q : List T) (oth : Nat → List T) : Nat → Option (Nat → List T)
  | 0 => some (fun _ => [])
  | j + 1 => match lessR row q oth j with
    | none => none
    | some R => match lessE (row j) q (oth j) with
      | none => none
      | some Y => some (updL R j Y)
theorem lessR_none {row : Nat → List T} {q : List T} {oth : Nat → List T} {j : Nat} (h : lessR row q oth j = none) : ∀ d, lessR row q oth (j + d) = none
  | 0 => h
  | d + 1 => by
    show (match lessR row q oth (j + d) with | none => none | some R => match lessE (row (j + d)) q (oth (j + d)) with | none => none | some Y => some (updL R (j + d) Y)) = none
    rw [lessR_none h d]
theorem lessR_bad {row : Nat → List T} {q : List T} {oth : Nat → List T} {j g : Nat} {R : Nat → List T} (hj : j < g) (h : lessR row q oth j = some R) (he : lessE (row j) q (oth j) = none) : lessR row q oth g = none := by
  have h1 : lessR row q oth (j + 1) = none := by
    show (match lessR row q oth j with | none => none | some R => match lessE (row j) q (oth j) with | none => none | some Y => some (updL R j Y)) = none
    rw [h]
    show (match lessE (row j) q (oth j) with | none => none | some Y => some (updL R j Y)) = none
    rw [he]
  have := lessR_none h1 (g - (j + 1))
  rwa [show j + 1 + (g - (j + 1)) = g by omega] at this
theorem lessR_step {row : Nat → List T} {q : List T} {oth : Nat → List T} {j : Nat} {R : Nat → List T} {Y : List T} (h : lessR row q oth j = some R) (he : lessE (row j) q (oth j) = some Y) : lessR row q oth (j + 1) = some (updL R j Y) := by
  show (match lessR row q oth j with | none => none | some R => match lessE (row j) q (oth j) with | none => none | some Y => some (updL R j Y)) = _
  rw [h]
  show (match lessE (row j) q (oth j) with | none => none | some Y => some (updL R j Y)) = _
  rw [he]
theorem lessE_ok {R q X Y : List T} (hR : okL R = true) (hq : okL q = true) (hX : okL X = true) (h : lessE R q X = some Y) : okL Y = true := by
  unfold lessE at h
  split at h
  · rename_i P hP
    split at h
    · rename_i hl
      cases h
      exact okL_of hl (subL_facts (okL_falls hR).2 (mulM_falls2 (good_ok hq).2 (good_ok hX).2 _ P (Nat.le_refl _) hP)).1
    · cases h
  · cases h
theorem lessR_ok {row : Nat → List T} {q : List T} {oth : Nat → List T} {g : Nat} (hrow : ∀ i, i < g → okL (row i) = true) (hq : okL q = true) (ho : ∀ i, i < g → okL (oth i) = true) : ∀ j R, j ≤ g → lessR row q oth j = some R → ∀ i, i < j → okL (R i) = true
  | 0, R, _, _, i, hi => by omega
  | j + 1, R, hj, h, i, hi => by
    cases hr : lessR row q oth j with
    | none => have := lessR_none hr 1; rw [this] at h; cases h
    | some R1 =>
      cases he : lessE (row j) q (oth j) with
      | none => have := lessR_bad (g := j + 1) (by omega) hr he; rw [this] at h; cases h
      | some Y =>
        rw [lessR_step hr he] at h
        cases h
        unfold updL
        split
        · exact lessE_ok (hrow j (by omega)) hq (ho j (by omega)) he
        · exact lessR_ok hrow hq ho j R1 (by omega) hr i (by omega)
/-- a row, less all that is taken, times the proofs. -/
def madeN (g : Nat) (P : Nat → Nat → List T) (qs : Nat → List T) (row : Option (Nat → List T)) : Nat → Option (Nat → List T)
  | 0 => row
  | t + 1 => match madeN g P qs row t with
    | none => none
    | some R => lessR R (qs t) (P t) g
def negT1 (u : T) : T := ⟨101 - u.c, u.m⟩
def made1 (g : Nat) (P : Nat → Nat → List T) (i k : Nat) (u v : T) : Option (Nat → List T) := match lessR (fun _ => []) [negT1 u] (P i) g with
  | none => none
  | some R => lessR R [v] (P k) g
def made (g : Nat) (P : Nat → Nat → List T) (i k : Nat) (u v : T) (nq : Nat) (qs : Nat → List T) : Option (Nat → List T) := madeN g P qs (made1 g P i k u v) nq
theorem madeN_none {g : Nat} {P : Nat → Nat → List T} {qs : Nat → List T} {row : Option (Nat → List T)} {t : Nat} (h : madeN g P qs row t = none) : ∀ d, madeN g P qs row (t + d) = none
  | 0 => h
  | d + 1 => by
    show (match madeN g P qs row (t + d) with | none => none | some R => lessR R (qs (t + d)) (P (t + d)) g) = none
    rw [madeN_none h d]
/-- a basis on its way. -/
structure Bs where
  m : Nat
  L : Nat → List T
  P : Nat → Nat → List T
def updP (P : Nat → Nat → List T) (m : Nat) (R : Nat → List T) (i : Nat) : Nat → List T := if i = m then R else P i
def addB (B : Bs) (r : List T) (R : Nat → List T) : Bs := ⟨B.m + 1, updL B.L B.m r, updP B.P B.m R⟩
abbrev spU (o : Int) (A C : List T) : T := sprU o A.length (lf A) C.length (lf C)
abbrev spV (o : Int) (A C : List T) : T := sprV o A.length (lf A) C.length (lf C)
abbrev spP (o : Int) (A C : List T) : List T × Bool := sprPoly o (lf A) A.length (lf C) C.length
/-- a pair is looked at; none: it is too much. -/
def stepB (o : Int) (g : Nat) (B : Bs) (i k : Nat) : Option Bs :=
  match spP o (B.L i) (B.L k) with
  | (s, true) => (match redAll o s B.m (lN B.L) (fN B.L) with
    | some S => if S.r.length = 0 then some B else if B.m = 12 then none else (match made g B.P i k (spU o (B.L i) (B.L k)) (spV o (B.L i) (B.L k)) B.m S.q with
      | some R => some (addB B S.r R)
      | none => none)
    | none => none)
  | (_, false) => none
def grun (o : Int) (g : Nat) : Nat → Bs → Nat → Bs × Bool
  | 0, B, j => (B, decide (tri B.m ≤ j))
  | f + 1, B, j => if j < tri B.m then (match stepB o g B (pq j).1 (pq j).2 with
      | none => (B, false)
      | some B' => grun o g f B' (j + 1)) else (B, true)
def oneP (k i : Nat) : List T := if i = k then [⟨1, ⟨0, 0, 0, 0⟩⟩] else []
def grb0 (n : Nat) (L : Nat → List T) : Bs := ⟨n, L, fun k => oneP k⟩
/-- what GrbMake answers. -/
def grbMake (o : Int) (n : Nat) (L : Nat → List T) (fuel : Int) : Bs × Bool :=
  if (1 ≤ o ∧ o ≤ 3) ∧ lstOk n (lN L) (fN L) = true ∧ (1 ≤ n ∧ n ≤ 3) ∧ (0 ≤ fuel ∧ fuel ≤ 60) then grun o n fuel.toNat (grb0 n L) 0 else (⟨0, fun _ => [], fun _ _ => []⟩, false)
/-- what is true of it all the time. -/
structure BsOk (o : Int) (g : Nat) (B : Bs) : Prop where
  ho : 1 ≤ o ∧ o ≤ 3
  l : lstOk B.m (lN B.L) (fN B.L) = true
  p : ∀ i, i < B.m → ∀ j, j < g → okL (B.P i j) = true
theorem one_okL : okL [(⟨1, ⟨0, 0, 0, 0⟩⟩ : T)] = true := by decide
theorem grb0_ok {o : Int} {n : Nat} {L : Nat → List T} (ho : 1 ≤ o ∧ o ≤ 3) (hl : lstOk n (lN L) (fN L) = true) : BsOk o n (grb0 n L) := ⟨ho, hl, fun i _ j _ => by
  show okL (oneP i j) = true
  unfold oneP
  split
  · exact one_okL
  · exact okL_nil⟩
theorem mod101 {a : Int} (h1 : 1 ≤ a) (h2 : a ≤ 100) : 1 ≤ 101 - a ∧ 101 - a ≤ 100 := by omega
theorem spUV_good {o : Int} {A C : List T} {s : List T} (h : spP o A C = (s, true)) : (okL [spU o A C] = true ∧ okL [negT1 (spU o A C)] = true ∧ okL [spV o A C] = true) ∧ ((spU o A C).m.ok = true ∧ 1 ≤ (spU o A C).c ∧ (spU o A C).c ≤ 100) ∧ ((spV o A C).m.ok = true ∧ 1 ≤ (spV o A C).c ∧ (spV o A C).c ≤ 100) := by
  have hs : sprOk o A.length (lf A) C.length (lf C) = true := by
    unfold spP sprPoly at h
    split at h
    · assumption
    · cases h
  obtain ⟨h1, h2⟩ := spr_good hs
  have g1 := mod101 h1.2.1 h1.2.2
  exact ⟨⟨one_ok h1, one_ok ⟨h1.1, g1.1, g1.2⟩, one_ok h2⟩, h1, h2⟩
theorem made_ok {g : Nat} {P : Nat → Nat → List T} {i k m : Nat} {u v : T} {qs : Nat → List T} (hi : i < m) (hk : k < m) (hP : ∀ i, i < m → ∀ j, j < g → okL (P i j) = true) (hu : okL [negT1 u] = true) (hv : okL [v] = true) (hq : ∀ t, t < m → okL (qs t) = true) : ∀ t R, t ≤ m → madeN g P qs (made1 g P i k u v) t = some R → ∀ j, j < g → okL (R j) = true
  | 0, R, _, h => by
    change made1 g P i k u v = some R at h
    unfold made1 at h
    split at h
    · cases h
    · rename_i R1 h1
      exact lessR_ok (lessR_ok (fun _ _ => okL_nil) hu (hP i hi) g R1 (Nat.le_refl _) h1) hv (hP k hk) g R (Nat.le_refl _) h
  | t + 1, R, ht, h => by
    cases hr : madeN g P qs (made1 g P i k u v) t with
    | none => have := madeN_none hr 1; rw [this] at h; cases h
    | some R1 =>
      have h' : lessR R1 (qs t) (P t) g = some R := by
        have : madeN g P qs (made1 g P i k u v) (t + 1) = lessR R1 (qs t) (P t) g := by
          show (match madeN g P qs (made1 g P i k u v) t with | none => none | some R => lessR R (qs t) (P t) g) = _
          rw [hr]
        rw [← this]; exact h
      exact lessR_ok (made_ok hi hk hP hu hv hq t R1 (by omega) hr) (hq t (by omega)) (hP t (by omega)) g R (Nat.le_refl _) h'
theorem lstOk_add {m : Nat} {L : Nat → List T} (hl : lstOk m (lN L) (fN L) = true) (hm : m ≠ 12) {r : List T} (hr : okL r = true) (h0 : r.length ≠ 0) : lstOk (m + 1) (lN (updL L m r)) (fN (updL L m r)) = true := by
  have h := lstOk_all hl
  refine decide_eq_true ⟨by omega, fun i hi => ?_⟩
  show (updL L m r i).length ≠ 0 ∧ okL (updL L m r i) = true
  unfold updL
  split
  · exact ⟨h0, hr⟩
  · exact h.2 i (by omega)
theorem stepB_ok {o : Int} {g : Nat} {B B' : Bs} {i k : Nat} (h : BsOk o g B) (hi : i < B.m) (hk : k < B.m) (hs : stepB o g B i k = some B') : BsOk o g B' := by
  unfold stepB at hs
  split at hs
  · rename_i s hsp
    split at hs
    · rename_i S hS
      split at hs
      · cases hs; exact h
      · rename_i h0
        split at hs
        · cases hs
        · rename_i h12
          split at hs
          · rename_i R hR
            cases hs
            obtain ⟨d1, d2⟩ := redAll_ok hS
            obtain ⟨⟨_, g2, g3⟩, _⟩ := spUV_good hsp
            refine ⟨h.ho, lstOk_add h.l h12 (okL_of (by have := d1.r.2; omega) d1.r.1) h0, fun a ha j hj => ?_⟩
            show okL (updP B.P B.m R a j) = true
            unfold updP
            split
            · exact made_ok hi hk h.p g2 g3 (fun t _ => okL_of (by have := (d1.q t).2; omega) (d1.q t).1) B.m R (Nat.le_refl _) hR j hj
            · have ha' : a < B.m + 1 := ha
              exact h.p a (by omega) j hj
          · cases hs
    · cases hs
  · cases hs
theorem stepB_m {o : Int} {g : Nat} {B B' : Bs} {i k : Nat} (hs : stepB o g B i k = some B') : B.m ≤ B'.m := by
  unfold stepB at hs
  split at hs
  · split at hs
    · split at hs
      · cases hs; exact Nat.le_refl _
      · split at hs
        · cases hs
        · split at hs
          · cases hs; exact Nat.le_succ _
          · cases hs
    · cases hs
  · cases hs
end Go.Proofs.YtmlaedpamobmhaaGreat
namespace Go.Proofs.YtmlaedpamobmhaaGreat
open Go.RowKit Go.Deep Go.Joins
set_option linter.unusedVariables false

theorem infoSL : (Tryz.prog.info? 35).map (fun i => (i.zero, i.size, i.bytes)) = some (some (.slice none 0 0), 1, 24) := by kernel_rfl
theorem one_sl (a : Option Addr) (n c : Nat) : ∀ u ∈ [Value.slice a n c], u.oneCell' = true := fun u hu => by
  have : u = .slice a n c := by simpa using hu
  subst this; rfl
theorem AnW.congr {lo : Nat} {w : World} {q q' : Nat → List T} {j : Nat} {tv : Value} {ad : Nat → Option Addr} {cp B : Nat → Nat} (h : AnW lo w q j tv ad cp B) (he : ∀ i, i < j → q i = q' i) : AnW lo w q' j tv ad cp B where
  row := by
    have e : slL ad (fun i => (q i).length) cp j = slL ad (fun i => (q' i).length) cp j := by
      unfold slL
      refine List.map_congr_left (fun i hi => ?_)
      show Value.slice (ad i) (q i).length (cp i) = Value.slice (ad i) (q' i).length (cp i)
      rw [he i (List.mem_range.1 hi)]
    rw [← e]; exact h.row
  el := fun i hi => by rw [← he i hi]; exact h.el i hi
  ap := fun i k h1 h2 => by rw [← he i (by omega), ← he k h2]; exact h.ap i k h1 h2
  lo := h.lo
theorem AnW.empty (w : World) (q : Nat → List T) : AnW w.heap.size (w.alloc (.cells #[] 35)) q 0 (.slice (some ⟨w.heap.size, 0, none⟩) 0 0) (fun _ => none) (fun _ => 0) (fun _ => 0) :=
  ⟨⟨rfl, .inr ⟨w.heap.size, 0, #[], rfl, Nat.le_refl _, heap_alloc_new w (.cells #[] 35), Nat.le_refl _, Nat.zero_le _, rfl, rfl⟩⟩, fun i hi => by omega, fun i k _ hk => by omega, by simp⟩
/-- one more is put behind, whatever is appended. -/
theorem AnW.more {lo : Nat} {w0 w1 w5 : World} {q : Nat → List T} {j : Nat} {tv : Value} {ad : Nat → Option Addr} {cp B : Nat → Nat} (h0 : AnW lo w0 q j tv ad cp B) (h : AnW lo w1 q j tv ad cp B)
    {a : Option Addr} {c : Nat} (ho : Out w0.heap.size w1 a c (q j)) {g0 cap0 : Nat} (hgrow : (w1.alloc (.cells #[.slice a (q j).length c] 35)).grownBy w5 tv.ownBlock)
    (hown : w5.ownsRow lo 35 1 (.slice (some ⟨g0, 0, none⟩) (j + 1) cap0) (j + 1) (slL ad (fun i => (q i).length) cp j ++ [.slice a (q j).length c])) (hat : tv.ownBlock = some g0 ∨ g0 = (w1.alloc (.cells #[.slice a (q j).length c] 35)).heap.size) (hlt : g0 < w5.heap.size) :
    ∃ ad' cp' B', AnW lo w5 q (j + 1) (.slice (some ⟨g0, 0, none⟩) (j + 1) cap0) ad' cp' B' :=
  ⟨_, _, _, h.round (m := w0.heap.size) (fun i hi h1 => by
      rcases (h0.el i hi).2.2 with hz | ⟨_, _, _, h3, _⟩
      · exact absurd hz h1
      · exact h3) (fun k hk => (h0.row.lt k hk).2) h0.lo ho hgrow hown (hat.imp id (fun e => e.trans (by simp))) hlt⟩
def rowK (k : Int) (i : Nat) : List T := if (i : Int) = k then [⟨1, ⟨0, 0, 0, 0⟩⟩] else []
def RowP (w : World) (n : Nat) (q : Nat → List T) (r : Ending) (w' : World) : Prop := ∃ ra rc ad cp Rb B, r = .returned (.slice ra n rc) ∧ Below w.heap.size w w' ∧ OutS w.heap.size w' ra n rc ad (fun i => (q i).length) cp (fun i => lf (q i)) Rb B
set_option maxRecDepth 100000 in
set_option maxHeartbeats 8000000 in
theorem l9RowS (w : World) (n : Nat) (k : Int) (hn : n ≤ 12) : Calls Tryz.prog 44 #[.int .i64 (n : Int), .int .i64 k] w (RowP w n (rowK k)) := by
  obtain ⟨i0, hi0, hz0, hz1, hz2⟩ := info_parts infoSL
  have hnl : (n : Int) ≤ 12 := by omega
  have HQ0 := Hid.mk' (AnW.empty w (rowK k))
  have HB0 := Hid.mk' (bel_one w (.cells #[] 35))
  go_enter Tryz.func44, Tryz.ntmps44
  go_wp2
  go_loopw [5, 6] (fun tv ii wr => ∃ (j : Nat) (ad : Nat → Option Addr) (cp B : Nat → Nat), j ≤ n ∧ ii = .int .i64 (j : Int) ∧ Below w.heap.size w wr ∧ AnW w.heap.size wr (rowK k) j tv ad cp B) (fun _ ii _ => n - (intOf ii).toNat)
  case atStart => exact ⟨0, _, _, _, Nat.zero_le _, rfl, HB0.out, HQ0.out⟩
  case round =>
    obtain ⟨j, ad, cp, B, hj, rfl, hB, hA⟩ := hrel
    have HB := Hid.mk' hB
    have HA := Hid.mk' hA
    by_cases hlt : j < n
    · have hjl : (j : Int) < (n : Int) := by omega
      have hmax : j + 1 ≤ maxLen := by unfold maxLen; omega
      by_cases hjk : (j : Int) = k
      · have hjb : ((j : Int) == k) = true := by simpa using hjk
        have hq : rowK k j = [⟨1, ⟨0, 0, 0, 0⟩⟩] := if_pos hjk
        have b1 := bel_one wr (.cells #[.int .i64 1, .int .i64 0, .int .i64 0, .int .i64 0, .int .i64 0] 54)
        have hA1 := hA.below b1
        have hO1 : Out wr.heap.size (wr.alloc (.cells #[.int .i64 1, .int .i64 0, .int .i64 0, .int .i64 0, .int .i64 0] 54)) (some ⟨wr.heap.size, 0, none⟩) 1 (rowK k j) := by
          rw [hq]
          have := World.ownsRow_lit (base := wr.heap.size) (e := 54) (size := 5) wr #[.int .i64 1, .int .i64 0, .int .i64 0, .int .i64 0, .int .i64 0] 1 (Nat.le_refl _) (by unfold maxLen; omega) rfl
          obtain ⟨a', c', e, ho⟩ := out_of_owns (L := [⟨1, ⟨0, 0, 0, 0⟩⟩]) this (by simp)
          cases e
          exact ho
        have hB1 := bel_next hB b1
        have HRND : Hid (∀ (g0 cap0 : Nat) (w5 : World), w5.ownsRow w.heap.size 35 1 (.slice (some ⟨g0, 0, none⟩) (j + 1) cap0) (j + 1) (slL ad (fun i => (rowK k i).length) cp j ++ [.slice (some ⟨wr.heap.size, 0, none⟩) 1 1]) → ((wr.alloc (.cells #[.int .i64 1, .int .i64 0, .int .i64 0, .int .i64 0, .int .i64 0] 54)).alloc (.cells #[.slice (some ⟨wr.heap.size, 0, none⟩) 1 1] 35)).grownBy w5 u5.ownBlock → (u5.ownBlock = some g0 ∨ g0 = ((wr.alloc (.cells #[.int .i64 1, .int .i64 0, .int .i64 0, .int .i64 0, .int .i64 0] 54)).alloc (.cells #[.slice (some ⟨wr.heap.size, 0, none⟩) 1 1] 35)).heap.size) → g0 < w5.heap.size → ∃ ad' cp' B', AnW w.heap.size w5 (rowK k) (j + 1) (.slice (some ⟨g0, 0, none⟩) (j + 1) cap0) ad' cp' B') := fun g0 cap0 w5 h1 h2 h3 h4 => by
          refine AnW.more hA hA1 hO1 ?_ ?_ ?_ h4
          · rw [hq]; exact h2
          · rw [hq]; exact h1
          · rw [hq]; exact h3
        have HA1 := Hid.mk' hA1
        have HB1 := Hid.mk' hB1
        have HN := Hid.mk' (heap_alloc_new (wr.alloc (.cells #[.int .i64 1, .int .i64 0, .int .i64 0, .int .i64 0, .int .i64 0] 54)) (.cells #[.slice (some ⟨wr.heap.size, 0, none⟩) 1 1] 35))
        have hsw : w.heap.size ≤ wr.heap.size := hB.size
        clear hq hjk b1 hA1 hO1 hB1 hA hB
        go_wp2_with (at_builtin; refine wpList_append_lies _ rfl (.tmp 16) (.tmp 19) 23 rfl w.heap.size 35 i0 _ 1 24 Tryz.underlying23 hi0 hz0 hz1 hz2 rfl (by omega) _ j (slL ad (fun i => (rowK k i).length) cp j) rfl (HA1.out.row.alloc _) ⟨wr.heap.size + 1, 0, none⟩ 1 1 [.slice (some ⟨wr.heap.size, 0, none⟩) 1 1] rfl rfl (by have := HN.out; rw [World.size_alloc] at this; exact World.news_of_block this) (one_sl _ _ _) (by omega) hmax (by omega) (by simp; omega) _ rfl ?_; intro g1 cap1 w7 hown2 hgrow2 hat2 hlt2; have HR := Hid.mk' (HRND.out g1 cap1 w7 hown2 hgrow2 hat2 hlt2); have HB7 := Hid.mk' ((HB1.out.alloc HB1.out.size _).grown hgrow2 (by simp; omega) (fun k e => (HA1.out.row.lt k e).1)); clear hown2 hgrow2 hat2 hlt2)
        obtain ⟨ad', cp', B', hA7⟩ := HR.out
        go_roundw
        case rel => exact ⟨j + 1, ad', cp', B', by omega, by go_num, HB7.out, hA7⟩
        case measure => simp [intOf]; omega
      · have hjb : ((j : Int) == k) = false := by simpa using hjk
        have hq : rowK k j = [] := if_neg hjk
        have b1 := bel_one wr (.cells #[] 54)
        have hA1 := hA.below b1
        have hO1 : Out wr.heap.size (wr.alloc (.cells #[] 54)) (some ⟨wr.heap.size, 0, none⟩) 0 (rowK k j) := by
          rw [hq]
          exact ⟨⟨Nat.le_refl _, by simp, .inl rfl⟩, .inl rfl, .inl rfl⟩
        have hB1 := bel_next hB b1
        have HRND : Hid (∀ (g0 cap0 : Nat) (w5 : World), w5.ownsRow w.heap.size 35 1 (.slice (some ⟨g0, 0, none⟩) (j + 1) cap0) (j + 1) (slL ad (fun i => (rowK k i).length) cp j ++ [.slice (some ⟨wr.heap.size, 0, none⟩) 0 0]) → ((wr.alloc (.cells #[] 54)).alloc (.cells #[.slice (some ⟨wr.heap.size, 0, none⟩) 0 0] 35)).grownBy w5 u5.ownBlock → (u5.ownBlock = some g0 ∨ g0 = ((wr.alloc (.cells #[] 54)).alloc (.cells #[.slice (some ⟨wr.heap.size, 0, none⟩) 0 0] 35)).heap.size) → g0 < w5.heap.size → ∃ ad' cp' B', AnW w.heap.size w5 (rowK k) (j + 1) (.slice (some ⟨g0, 0, none⟩) (j + 1) cap0) ad' cp' B') := fun g0 cap0 w5 h1 h2 h3 h4 => by
          refine AnW.more hA hA1 hO1 ?_ ?_ ?_ h4
          · rw [hq]; exact h2
          · rw [hq]; exact h1
          · rw [hq]; exact h3
        have HA1 := Hid.mk' hA1
        have HB1 := Hid.mk' hB1
        have HN := Hid.mk' (heap_alloc_new (wr.alloc (.cells #[] 54)) (.cells #[.slice (some ⟨wr.heap.size, 0, none⟩) 0 0] 35))
        have hsw : w.heap.size ≤ wr.heap.size := hB.size
        clear hq hjk b1 hA1 hO1 hB1 hA hB
        go_wp2_with (at_builtin; refine wpList_append_lies _ rfl (.tmp 21) (.tmp 23) 23 rfl w.heap.size 35 i0 _ 1 24 Tryz.underlying23 hi0 hz0 hz1 hz2 rfl (by omega) _ j (slL ad (fun i => (rowK k i).length) cp j) rfl (HA1.out.row.alloc _) ⟨wr.heap.size + 1, 0, none⟩ 1 1 [.slice (some ⟨wr.heap.size, 0, none⟩) 0 0] rfl rfl (by have := HN.out; rw [World.size_alloc] at this; exact World.news_of_block this) (one_sl _ _ _) (by omega) hmax (by omega) (by simp; omega) _ rfl ?_; intro g1 cap1 w7 hown2 hgrow2 hat2 hlt2; have HR := Hid.mk' (HRND.out g1 cap1 w7 hown2 hgrow2 hat2 hlt2); have HB7 := Hid.mk' ((HB1.out.alloc HB1.out.size _).grown hgrow2 (by simp; omega) (fun k e => (HA1.out.row.lt k e).1)); clear hown2 hgrow2 hat2 hlt2)
        obtain ⟨ad', cp', B', hA7⟩ := HR.out
        go_roundw
        case rel => exact ⟨j + 1, ad', cp', B', by omega, by go_num, HB7.out, hA7⟩
        case measure => simp [intOf]; omega
    · have hjn : ¬ (j : Int) < (n : Int) := by omega
      have hje : j = n := by omega
      subst hje
      obtain ⟨qa, qc, R, etv, hO⟩ := hA.out (by omega)
      subst etv
      have HO := Hid.mk' hO
      clear hB hA hO
      go_wp2
      go_ret
      exact ⟨qa, qc, ad, cp, R, B, rfl, HB.out, HO.out⟩
set_option maxRecDepth 100000 in
set_option maxHeartbeats 4000000 in
theorem l9ZeroS (w : World) (n : Nat) (hn : n ≤ 12) : Calls Tryz.prog 120 #[.int .i64 (n : Int)] w (RowP w n (fun _ => [])) := by
  have hq : rowK (-1) = fun _ => [] := funext fun i => if_neg (by omega)
  have HC := l9RowS w n (-1) hn
  rw [hq] at HC
  have HCC := Hid.mk' HC
  clear HC hq
  go_enter Tryz.func120, Tryz.ntmps120
  go_wp2_with fail
  refine HCC.out.mono ?_
  rintro r w1 ⟨ra, rc, ad, cp, Rb, B, rfl, b1, ho⟩
  have HO := Hid.mk' ho
  have HB := Hid.mk' b1
  clear b1 ho
  go_wp2
  go_ret
  exact ⟨ra, rc, ad, cp, Rb, B, rfl, HB.out, HO.out⟩
def LessP (w : World) (n : Nat) (R : Option (Nat → List T)) (r : Ending) (w' : World) : Prop :=
  Below w.heap.size w w' ∧ ((∃ q ra rc ad cp Rb B, R = some q ∧ r = .returned (.tuple #[.slice ra n rc, .bool true]) ∧ OutS w.heap.size w' ra n rc ad (fun i => (q i).length) cp (fun i => lf (q i)) Rb B) ∨ (R = none ∧ ∃ ra rc, r = .returned (.tuple #[.slice ra 0 rc, .bool false])))
theorem scL_100 {q : List T} (hq : okL q = true) : okL (scL 100 q) = true := okL_of (by rw [scL_len]; exact (okL_falls hq).1) (scL_falls (by omega) (by omega) (okL_falls hq).2)
theorem l3Scale_L {w : World} {a : Option Addr} {c : Nat} {q : List T} (h : RL w a c q) (hq : okL q = true) : Calls Tryz.prog 150 #[.int .i64 100, .slice a q.length c] w (One1 w (scL 100 q)) := by
  refine (l3ScaleS w 100 a q.length c (lf q) h (by omega) (by omega) (by have := (okL_falls hq).1; omega) (fun i hi => (good_ok (show polOk q.length (lf q) = true from hq)).2 i hi |>.2)).mono ?_
  rintro r w' ⟨v, rfl, hb, ho⟩
  rw [if_neg (by omega)] at ho
  have e : scT 100 (lf q) q.length = scL 100 q := rfl
  rw [e] at ho
  exact one_owns (by rw [scL_len]; exact (okL_falls hq).1) ⟨v, rfl, hb, by rw [scL_len]; exact ho⟩
theorem l4Mul_L {w : World} {a b : Option Addr} {ca cb : Nat} {q X : List T} (ha : RL w a ca q) (hb : RL w b cb X) (hq : okL q = true) (hX : okL X = true) : Calls Tryz.prog 94 #[.slice a q.length ca, .slice b X.length cb] w (Two2 w (mulO (mulM (lf q) (lf X) X.length q.length))) := by
  refine (mulS4 w a b q.length ca X.length cb (lf q) (lf X) ha hb (okL_falls hq).1 (okL_falls hX).1 (good_ok hq).2 (good_ok hX).2).mono fun _ _ h => two_owns ?_ h
  cases hm : mulM (lf q) (lf X) X.length q.length with
  | none => exact Nat.zero_le _
  | some K => exact mulM_len _ K hm
set_option maxRecDepth 100000 in
set_option maxHeartbeats 8000000 in
theorem l9LessS (w : World) (g : Nat) (hg : g ≤ 12) (ra : Option Addr) (rc : Nat) (adR : Nat → Option Addr) (cpR : Nat → Nat) (row : Nat → List T) (hr : RdS w ra g rc adR (lN row) cpR (fN row)) (hrok : ∀ i, i < g → okL (row i) = true)
    (qa : Option Addr) (qc : Nat) (q : List T) (hq : RL w qa qc q) (hqok : okL q = true) (oa : Option Addr) (oc : Nat) (adO : Nat → Option Addr) (cpO : Nat → Nat) (oth : Nat → List T) (ho : RdS w oa g oc adO (lN oth) cpO (fN oth)) (hook : ∀ i, i < g → okL (oth i) = true) :
    Calls Tryz.prog 119 #[.slice ra g rc, .slice qa q.length qc, .slice oa g oc] w (LessP w g (lessR row q oth g)) := by
  obtain ⟨i0, hi0, hz0, hz1, hz2⟩ := info_parts infoSL
  have hgl : (g : Int) ≤ 12 := by omega
  obtain ⟨R, hR⟩ : ∃ R, lessR row q oth g = R := ⟨_, rfl⟩
  rw [hR]
  have HR := Hid.mk' hR
  have HRO := Hid.mk' hr
  have HQ := Hid.mk' hq
  have HO := Hid.mk' ho
  have HB0 := Hid.mk' (bel_one w (.cells #[] 35))
  have HA0 := Hid.mk' (AnW.empty w (fun _ => []))
  have HQK := Hid.mk' hqok
  have HOK := Hid.mk' hook
  have HRK := Hid.mk' hrok
  clear hr hq ho hR hqok hook hrok
  go_enter Tryz.func119, Tryz.ntmps119
  go_wp2
  go_loopw [8, 9] (fun tv ii wr => ∃ (j : Nat) (X : Nat → List T) (ad : Nat → Option Addr) (cp B : Nat → Nat), j ≤ g ∧ ii = .int .i64 (j : Int) ∧ lessR row q oth j = some X ∧ Below w.heap.size w wr ∧ AnW w.heap.size wr X j tv ad cp B) (fun _ ii _ => g - (intOf ii).toNat)
  case atStart => exact ⟨0, fun _ => [], _, _, _, Nat.zero_le _, rfl, rfl, HB0.out, HA0.out⟩
  case round =>
    obtain ⟨j, X, ad, cp, B, hj, rfl, hX, hB, hA⟩ := hrel
    have HX := Hid.mk' hX
    have HB := Hid.mk' hB
    have HA := Hid.mk' hA
    clear hX
    by_cases hlt : j < g
    · have hjl : (j : Int) < (g : Int) := by omega
      have hmax : j + 1 ≤ maxLen := by unfold maxLen; omega
      rcases HO.out.2.2.1 with h0 | ⟨ob, off, rfl, hobl, hocl⟩
      · omega
      rcases HRO.out.2.2.1 with h0 | ⟨rb, roff, rfl, hrbl, hrcl⟩
      · omega
      obtain ⟨O1, hO1⟩ : ∃ O1, oth j = O1 := ⟨_, rfl⟩
      obtain ⟨R1, hR1⟩ : ∃ R1, row j = R1 := ⟨_, rfl⟩
      have dr : Below wr.heap.size wr wr.drew := (Below.refl _ _).drew
      have hBd := bel_next hB dr
      have hS : wr.drew.cell? ⟨ob, off + j, none⟩ = some (.slice (adO j) O1.length (cpO j)) := (hBd.cell (p := ⟨ob, off + j, none⟩) hobl).trans (by rw [← hO1]; exact hocl j hlt)
      have cR : wr.drew.cell? ⟨rb, roff + j, none⟩ = some (.slice (adR j) R1.length (cpR j)) := (hBd.cell (p := ⟨rb, roff + j, none⟩) hrbl).trans (by rw [← hR1]; exact hrcl j hlt)
      have RO1 : Hid (RL wr.drew (adO j) (cpO j) O1) := by rw [← hO1]; exact (HO.out.2.2.2 j hlt).below hBd
      have RR1 : Hid (RL wr.drew (adR j) (cpR j) R1) := by rw [← hR1]; exact (HRO.out.2.2.2 j hlt).below hBd
      have RQ1 := Hid.mk' (HQ.out.below hBd)
      have okO : okL O1 = true := by rw [← hO1]; exact HOK.out j hlt
      have okR : okL R1 = true := by rw [← hR1]; exact HRK.out j hlt
      have HS := Hid.mk' hS
      have HCR := Hid.mk' cR
      have HBd := Hid.mk' hBd
      have HAd := Hid.mk' (hA.below dr)
      have hm := mulM_sc (f := lf q) (f2 := lf (scL 100 q)) (la := q.length) (c := 100) (by omega) (by omega) (good_ok (show polOk q.length (lf q) = true from HQK.out)).2 (good_ok (show polOk O1.length (lf O1) = true from okO)).2 (fun i hi => lf_sc 100 q hi) q.length (Nat.le_refl _)
      obtain ⟨E, hE⟩ : ∃ E, lessE R1 q O1 = E := ⟨_, rfl⟩
      have hE' : lessE (row j) q (oth j) = E := by rw [hO1, hR1]; exact hE
      have hc1 := l3Scale_L RQ1.out HQK.out
      have HC1 := Hid.mk' hc1
      have hrbr : rb < wr.drew.heap.size := World.block_lt_of_cell? _ _ cR
      clear hocl hrcl hS cR hO1 hR1 hB hA hBd dr hc1
      cases hP : mulM (lf q) (lf O1) O1.length q.length with
      | none =>
        rw [hP] at hm
        have hRn : R = none := by
          rw [← HR.out]
          refine lessR_bad hlt HX.out (hE'.trans ?_)
          rw [← hE]; unfold lessE; rw [hP]
        subst hRn
        have HC2 : Hid (∀ (W : World) (a b : Option Addr) (ca cb : Nat), RL W a ca (scL 100 q) → RL W b cb O1 → Calls Tryz.prog 94 #[.slice a (scL 100 q).length ca, .slice b O1.length cb] W (Two2 W ([], false))) := fun W a b ca cb k1 k2 => by
          have := l4Mul_L k1 k2 (scL_100 HQK.out) okO
          rw [scL_len, hm] at this
          rw [scL_len]
          exact this
        clear hm hP hE hE'
        go_wp2_with fail
        have hS := HS.out
        go_region_held3 (fun u => u.cell? ⟨ob, off + j, none⟩ = some (.slice (adO j) O1.length (cpO j))) (first | with_reducible exact hS | with_reducible exact ((b5.cell (p := ⟨ob, off + j, none⟩) (World.block_lt_of_cell? _ _ hS)).trans hS) | with_reducible exact h6) (first | (go_at_call 150; refine HC1.out.mono ?_; rintro e w5 ⟨za, zc, rfl, b5, hz⟩) | (go_at_call 94; refine (HC2.out _ _ _ _ _ hz (RO1.out.below b5)).mono ?_; rintro e w6 ⟨ya, yc, rfl, b6, hy⟩; have h6 := (b6.cell (p := ⟨ob, off + j, none⟩) (World.block_lt_of_cell? w5 _ ((b5.cell (p := ⟨ob, off + j, none⟩) (World.block_lt_of_cell? _ _ hS)).trans hS))).trans ((b5.cell (p := ⟨ob, off + j, none⟩) (World.block_lt_of_cell? _ _ hS)).trans hS)))
        have HB6 := Hid.mk' (bel_next (bel_next HBd.out b5) b6)
        clear hS b5 b6 hz hy h6
        go_wp2
        refine bodyPost_ret (results_tmp2 rfl _ _ _) rfl ?_
        exact ⟨HB6.out.alloc HB6.out.size _, .inr ⟨rfl, _, _, rfl⟩⟩
      | some P =>
        rw [hP] at hm
        have okP : okL (scL 100 P) = true := scL_100 (okL_of (mulM_len _ P hP) (mulM_falls2 (good_ok (show polOk q.length (lf q) = true from HQK.out)).2 (good_ok (show polOk O1.length (lf O1) = true from okO)).2 _ P (Nat.le_refl _) hP))
        have HC2 : Hid (∀ (W : World) (a b : Option Addr) (ca cb : Nat), RL W a ca (scL 100 q) → RL W b cb O1 → Calls Tryz.prog 94 #[.slice a (scL 100 q).length ca, .slice b O1.length cb] W (Two2 W (scL 100 P, true))) := fun W a b ca cb k1 k2 => by
          have := l4Mul_L k1 k2 (scL_100 HQK.out) okO
          rw [scL_len, hm] at this
          rw [scL_len]
          exact this
        have hE2 : E = if (subL R1 P).length ≤ 400 then some (subL R1 P) else none := by rw [← hE]; unfold lessE; rw [hP]
        have hsl : (subL R1 P).length ≤ 800 := by
          have h1 := subL_len R1 P
          have h2 := (okL_falls okR).1
          have h3 := mulM_len _ P hP
          omega
        clear hm hP hE
        obtain ⟨Y, hY⟩ : ∃ Y, subL R1 P = Y := ⟨_, rfl⟩
        have HC3 : Hid (∀ (W : World) (a : Option Addr) (ca : Nat), RL W (adR j) (cpR j) R1 → RL W a ca (scL 100 P) → Calls Tryz.prog 97 #[.slice (adR j) R1.length (cpR j), .slice a (scL 100 P).length ca] W fun r w' => ∃ a' c', r = .returned (.slice a' Y.length c') ∧ Below W.heap.size W w' ∧ Out W.heap.size w' a' c' Y) := fun W a ca k1 k2 => by
          refine (l3AddS W (adR j) a R1.length (cpR j) (scL 100 P).length ca (lf R1) (lf (scL 100 P)) k1 k2 (by have h2 := (okL_falls okR).1; have h3 := (okL_falls okP).1; omega) (fun i hi => ((good_ok (show polOk R1.length (lf R1) = true from okR)).2 i hi).2) (fun i hi => ((good_ok (show polOk (scL 100 P).length (lf (scL 100 P)) = true from okP)).2 i hi).2)).mono ?_
          rintro r w' ⟨v, rfl, hb, hown⟩
          have e : addT (lf R1) R1.length (lf (scL 100 P)) (scL 100 P).length 0 0 = Y := by rw [← hY]; rfl
          rw [e] at hown
          obtain ⟨a', c', rfl, hout⟩ := out_of_owns hown (by rw [← hY]; omega)
          exact ⟨a', c', rfl, hb, hout⟩
        rw [hY] at hE2 hsl
        have HYE := Hid.mk' hE2
        have HE' := Hid.mk' hE'
        have hYl : (Y.length : Int) ≤ 800 := by omega
        clear hY hE2 hE' hsl
        go_wp2_with fail
        have hS := HS.out
        go_region_held3 (fun u => u.cell? ⟨ob, off + j, none⟩ = some (.slice (adO j) O1.length (cpO j))) (first | with_reducible exact hS | with_reducible exact ((b5.cell (p := ⟨ob, off + j, none⟩) (World.block_lt_of_cell? _ _ hS)).trans hS) | with_reducible exact h6) (first | (go_at_call 150; refine HC1.out.mono ?_; rintro e w5 ⟨za, zc, rfl, b5, hz⟩) | (go_at_call 94; refine (HC2.out _ _ _ _ _ hz (RO1.out.below b5)).mono ?_; rintro e w6 ⟨ya, yc, rfl, b6, hy⟩; have h6 := (b6.cell (p := ⟨ob, off + j, none⟩) (World.block_lt_of_cell? w5 _ ((b5.cell (p := ⟨ob, off + j, none⟩) (World.block_lt_of_cell? _ _ hS)).trans hS))).trans ((b5.cell (p := ⟨ob, off + j, none⟩) (World.block_lt_of_cell? _ _ hS)).trans hS)))
        have hB6 := bel_next (bel_next HBd.out b5) b6
        have HB6 := Hid.mk' hB6
        have b56 := bel_next b5 b6
        have c6 : w6.cell? ⟨rb, roff + j, none⟩ = some (.slice (adR j) R1.length (cpR j)) := (b56.cell (p := ⟨rb, roff + j, none⟩) hrbr).trans HCR.out
        have R6 := Hid.mk' (RR1.out.below b56)
        have Y6 := Hid.mk' hy
        have A6 := Hid.mk' (HAd.out.below b56)
        clear hS b5 b6 hz hy h6 hB6 b56 HC1 HC2
        go_wp2_with fail
        refine (HC3.out _ _ _ R6.out Y6.out).mono ?_
        rintro r w7 ⟨va, vc, rfl, b7, hO7⟩
        have HB7 := Hid.mk' (bel_next HB6.out b7)
        have HA7 := Hid.mk' (A6.out.below b7)
        have HO7 := Hid.mk' hO7
        clear b7 hO7 c6 R6 Y6 HC3
        by_cases hl4 : Y.length ≤ 400
        · have hng : ¬ (400 : Int) < (Y.length : Int) := by omega
          have hEs : lessE (row j) q (oth j) = some Y := by rw [HE'.out, HYE.out, if_pos hl4]
          have HXN := Hid.mk' (lessR_step HX.out hEs)
          have hAX : AnW w.heap.size w7 (updL X j Y) j u8 ad cp B := HA7.out.congr (fun i hi => (if_neg (by omega)).symm)
          have hA6X : AnW w.heap.size w6 (updL X j Y) j u8 ad cp B := A6.out.congr (fun i hi => (if_neg (by omega)).symm)
          have hYj : updL X j Y j = Y := if_pos rfl
          have HRND : Hid (∀ (g0 cap0 : Nat) (w5 : World), w5.ownsRow w.heap.size 35 1 (.slice (some ⟨g0, 0, none⟩) (j + 1) cap0) (j + 1) (slL ad (fun i => (updL X j Y i).length) cp j ++ [.slice va Y.length vc]) → (w7.alloc (.cells #[.slice va Y.length vc] 35)).grownBy w5 u8.ownBlock → (u8.ownBlock = some g0 ∨ g0 = (w7.alloc (.cells #[.slice va Y.length vc] 35)).heap.size) → g0 < w5.heap.size → ∃ ad' cp' B', AnW w.heap.size w5 (updL X j Y) (j + 1) (.slice (some ⟨g0, 0, none⟩) (j + 1) cap0) ad' cp' B') := fun g0 cap0 w5 h1 h2 h3 h4 => by
            refine AnW.more hA6X hAX (a := va) (c := vc) (by rw [hYj]; exact HO7.out) ?_ ?_ ?_ h4
            · rw [hYj]; exact h2
            · rw [hYj]; exact h1
            · rw [hYj]; exact h3
          have HAX := Hid.mk' hAX
          have hsw : w.heap.size ≤ w7.heap.size := HB7.out.size
          clear hEs hAX hA6X hYj hl4
          go_wp2_with (at_builtin; refine wpList_append_lies _ rfl (.tmp 43) (.tmp 45) 23 rfl w.heap.size 35 i0 _ 1 24 Tryz.underlying23 hi0 hz0 hz1 hz2 rfl (by omega) _ j (slL ad (fun i => (updL X j Y i).length) cp j) rfl (HAX.out.row.alloc _) ⟨w7.heap.size, 0, none⟩ 1 1 [.slice va Y.length vc] rfl rfl (World.news_of_block (heap_alloc_new w7 _)) (one_sl _ _ _) (by omega) hmax (by omega) (by simp; omega) _ rfl ?_; intro g1 cap1 w8 hown2 hgrow2 hat2 hlt2; have HRR := Hid.mk' (HRND.out g1 cap1 w8 hown2 hgrow2 hat2 hlt2); have HB8 := Hid.mk' ((HB7.out.alloc HB7.out.size _).grown hgrow2 (by simp; omega) (fun k e => (HAX.out.row.lt k e).1)); clear hown2 hgrow2 hat2 hlt2)
          obtain ⟨ad', cp', B', hA8⟩ := HRR.out
          go_roundw
          case rel => exact ⟨j + 1, updL X j Y, ad', cp', B', by omega, by go_num, HXN.out, HB8.out, hA8⟩
          case measure => simp [intOf]; omega
        · have hgt : (400 : Int) < (Y.length : Int) := by omega
          have hRn : R = none := by
            rw [← HR.out]
            refine lessR_bad hlt HX.out ?_
            rw [HE'.out, HYE.out, if_neg hl4]
          subst hRn
          go_wp2
          refine bodyPost_ret (results_tmp2 rfl _ _ _) rfl ?_
          exact ⟨HB7.out.alloc HB7.out.size _, .inr ⟨rfl, _, _, rfl⟩⟩
    · have hjn : ¬ (j : Int) < (g : Int) := by omega
      have hje : j = g := by omega
      subst hje
      have hRs : R = some X := by rw [← HR.out]; exact HX.out
      subst hRs
      obtain ⟨qa', qc', Rb, etv, hO⟩ := hA.out (by omega)
      subst etv
      have HOO := Hid.mk' hO
      clear hB hA hO
      go_wp2
      refine bodyPost_ret (results_tmp2 rfl _ _ _) rfl ?_
      exact ⟨HB.out, .inl ⟨X, qa', qc', ad, cp, Rb, B, rfl, rfl, HOO.out⟩⟩
end Go.Proofs.YtmlaedpamobmhaaGreat
