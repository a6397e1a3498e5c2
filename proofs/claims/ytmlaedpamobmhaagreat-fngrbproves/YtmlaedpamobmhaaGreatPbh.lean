/-
  A sum of products of two lists: the program's RedSum.
  A division on its way, as lists: what a step does, and what stays true.
  The greatest term of a sum while it is made.
-/
import Derived.Test.YtmlaedpamobmhaaGreatPbg
import Derived.Test.YtmlaedpamobmhaaGreatPbd
import Derived.Test.YtmlaedpamobmhaaGreatPbc
import Derived.Test.YtmlaedpamobmhaaGreatPbb
import Derived.Test.YtmlaedpamobmhaaGreatPbe
import Derived.Test.YtmlaedpamobmhaaGreatPaj
import Derived.Maps.RangeWalk
import Derived.Deep.RegionWith
namespace Go.Proofs.YtmlaedpamobmhaaGreat
open Go.RowKit Go.Deep Go.Joins
set_option linter.unusedVariables false

set_option maxRecDepth 100000 in
set_option maxHeartbeats 8000000 in
theorem redSumI (w : World) (a1 : Option Addr) (n1 c1 : Nat) (ad1 : Nat → Option Addr) (ln1 cp1 : Nat → Nat) (f1 : Nat → Nat → T) (h1 : RdS w a1 n1 c1 ad1 ln1 cp1 f1) (a2 : Option Addr) (n2 c2 : Nat) (ad2 : Nat → Option Addr) (ln2 cp2 : Nat → Nat) (f2 : Nat → Nat → T) (h2 : RdS w a2 n2 c2 ad2 ln2 cp2 f2) :
    Calls Tryz.prog 16 #[.slice a1 n1 c1, .slice a2 n2 c2] w fun r w' => ∃ a c, r = .returned (.tuple #[.slice a (redSum n1 ln1 f1 n2 ln2 f2).1.length c, .bool (redSum n1 ln1 f1 n2 ln2 f2).2]) ∧ Below w.heap.size w w' ∧ Out w.heap.size w' a c (redSum n1 ln1 f1 n2 ln2 f2).1 := by
  have q1 : (n1 : Int) ≤ 140737488351232 := by have := h1.2.1; omega
  have q2 : (n2 : Int) ≤ 140737488351232 := by have := h2.2.1; omega
  have HB0 := Hid.mk' (bel_two w (.cells #[.slice a1 n1 c1] 23) (.cells #[.slice a2 n2 c2] 23))
  have H1 := Hid.mk' (h1.below HB0.out)
  have H2 := Hid.mk' (h2.below HB0.out)
  clear h1 h2
  by_cases hn : n1 = n2 ∧ n2 ≤ 12
  · obtain ⟨hn1, hn2⟩ := hn
    have HE : Hid (redSum n1 ln1 f1 n2 ln2 f2 = mulO (sumPr ln1 f1 ln2 f2 n2)) := if_pos ⟨hn1, hn2⟩
    subst hn1
    have hne : ((n1 : Int) != (n1 : Int)) = false := by simp
    have hng : ¬ (12 : Int) < (n1 : Int) := by omega
    have hsz : ((w.alloc (.cells #[.slice a1 n1 c1] 23)).alloc (.cells #[.slice a2 n1 c2] 23)).heap.size = w.heap.size + 2 := by simp
    have k0 : ((w.alloc (.cells #[.slice a1 n1 c1] 23)).alloc (.cells #[.slice a2 n1 c2] 23)).cell? ⟨w.heap.size, 0, none⟩ = some (.slice a1 n1 c1) := by simp [go_sem]
    have k1 : ((w.alloc (.cells #[.slice a1 n1 c1] 23)).alloc (.cells #[.slice a2 n1 c2] 23)).cell? ⟨w.heap.size + 1, 0, none⟩ = some (.slice a2 n1 c2) := by
      simp [go_sem]
    obtain ⟨w0, hw0⟩ : ∃ w0, ((w.alloc (.cells #[.slice a1 n1 c1] 23)).alloc (.cells #[.slice a2 n1 c2] 23)) = w0 := ⟨_, rfl⟩
    have HS1 : Hid (Calls Tryz.prog 47 #[.pointer (some ⟨w.heap.size, 0, none⟩), .pointer (some ⟨w.heap.size + 2, 0, none⟩), .pointer (some ⟨w.heap.size + 1, 0, none⟩)] (((w.alloc (.cells #[.slice a1 n1 c1] 23)).alloc (.cells #[.slice a2 n1 c2] 23)).alloc (.cells #[.slice none 0 0] 35)) fun r w' => SumPost w0 (sumPr ln1 f1 ln2 f2 n1) r w') := by
      have := sum1I ((w.alloc (.cells #[.slice a1 n1 c1] 23)).alloc (.cells #[.slice a2 n1 c2] 23)) (((w.alloc (.cells #[.slice a1 n1 c1] 23)).alloc (.cells #[.slice a2 n1 c2] 23)).alloc (.cells #[.slice none 0 0] 35)) w.heap.size (w.heap.size + 1) n1 a1 c1 ad1 ln1 cp1 f1 H1.out a2 c2 ad2 ln2 cp2 f2 H2.out k0 k1 (bel_one _ _) (by rw [World.cell?_alloc_at _ _ _ _ rfl]; rfl) (by rw [World.frozen?_alloc_at _ _ _ _ rfl])
      rw [hsz, hw0] at this
      rw [hw0]
      exact this
    have hsz0 : w0.heap.size = w.heap.size + 2 := by rw [← hw0]; exact hsz
    have hBw : Below w.heap.size w w0 := by rw [← hw0]; exact HB0.out
    have HBW := Hid.mk' hBw
    clear hBw k0 k1
    cases hS : sumPr ln1 f1 ln2 f2 n1 with
    | some K =>
      have e2 : redSum n1 ln1 f1 n1 ln2 f2 = (K, true) := by rw [HE.out, hS]; rfl
      rw [e2]
      have HC := Hid.mk' (redEnds_yes 47 #[.pointer (some ⟨w.heap.size, 0, none⟩), .pointer (some ⟨w.heap.size + 2, 0, none⟩), .pointer (some ⟨w.heap.size + 1, 0, none⟩)] (((w.alloc (.cells #[.slice a1 n1 c1] 23)).alloc (.cells #[.slice a2 n1 c2] 23)).alloc (.cells #[.slice none 0 0] 35)) (fun w' => Below w0.heap.size w0 w' ∧ ∃ a c, w'.cell? ⟨w.heap.size + 2, 0, none⟩ = some (.slice a K.length c) ∧ Out (w.heap.size + 3) w' a c K) (enters_of Tryz.func47 (by kernel_rfl) rfl) (HS1.out.mono fun r w' h => by
        rw [hS] at h
        rcases h.2 with ⟨K', a, c, hK, _, hr, hcl, ho⟩ | ⟨hno, _⟩
        · cases hK
          rw [hsz0] at hcl ho
          exact ⟨hr, h.1, a, c, hcl, ho⟩
        · cases hno))
      clear HS1 e2 hS hw0 hsz
      go_enter Tryz.func16, Tryz.ntmps16
      go_wp2_with fail
      refine HC.out.mono ?_
      rintro r w3 ⟨rfl, w1, ⟨hb, a, c, hcl, hout⟩, rfl⟩
      have g1 : (w1.alloc (.cells #[] 114)).cell? ⟨w.heap.size + 2, 0, none⟩ = some (.slice a K.length c) := ((bel_one w1 _).cell (p := ⟨w.heap.size + 2, 0, none⟩) (World.block_lt_of_cell? w1 _ hcl)).trans hcl
      have HB3 := Hid.mk' (bel_next (bel_next HBW.out hb) (bel_one w1 (.cells #[] 114)))
      have HO3 := Hid.mk' ((hout.below (bel_one w1 (.cells #[] 114))).low (lo' := w.heap.size) (by omega))
      clear hb hcl hout HC
      go_wp2
      refine bodyPost_ret (results_tmp2 rfl _ _ _) rfl ?_
      exact ⟨a, c, rfl, HB3.out, HO3.out⟩
    | none =>
      have e2 : redSum n1 ln1 f1 n1 ln2 f2 = ([], false) := by rw [HE.out, hS]; rfl
      rw [e2]
      have HC := Hid.mk' (redEnds_no 47 #[.pointer (some ⟨w.heap.size, 0, none⟩), .pointer (some ⟨w.heap.size + 2, 0, none⟩), .pointer (some ⟨w.heap.size + 1, 0, none⟩)] (((w.alloc (.cells #[.slice a1 n1 c1] 23)).alloc (.cells #[.slice a2 n1 c2] 23)).alloc (.cells #[.slice none 0 0] 35)) (fun w' => Below w0.heap.size w0 w') (enters_of Tryz.func47 (by kernel_rfl) rfl) (HS1.out.mono fun r w' h => by
        rw [hS] at h
        rcases h.2 with ⟨K', a, c, hK, _⟩ | ⟨_, hr⟩
        · cases hK
        · exact ⟨hr, h.1⟩))
      clear HS1 e2 hS hw0 hsz
      go_enter Tryz.func16, Tryz.ntmps16
      go_wp2_with fail
      refine HC.out.mono ?_
      rintro r w3 ⟨rfl, w1, hb, rfl⟩
      have HB3 := Hid.mk' (bel_next (bel_next HBW.out hb) (bel_one w1 (.cells #[] 114)))
      clear hb HC
      go_wp2
      refine bodyPost_ret (results_tmp2 rfl _ _ _) rfl ?_
      exact ⟨none, 0, rfl, HB3.out, Out.nil _ _⟩
  · have HE : Hid (redSum n1 ln1 f1 n2 ln2 f2 = ([], false)) := if_neg hn
    by_cases he : n1 = n2
    · subst he
      have hne : ((n1 : Int) != (n1 : Int)) = false := by simp
      have hng : (12 : Int) < (n1 : Int) := by omega
      go_enter Tryz.func16, Tryz.ntmps16
      go_wp2
      refine bodyPost_ret (results_tmp2 rfl _ _ _) rfl ?_
      rw [HE.out]
      exact ⟨none, 0, rfl, HB0.out, Out.nil _ _⟩
    · have hne : ((n1 : Int) != (n2 : Int)) = true := by simp; omega
      go_enter Tryz.func16, Tryz.ntmps16
      go_wp2
      refine bodyPost_ret (results_tmp2 rfl _ _ _) rfl ?_
      rw [HE.out]
      exact ⟨none, 0, rfl, HB0.out, Out.nil _ _⟩
end Go.Proofs.YtmlaedpamobmhaaGreat
namespace Go.Proofs.YtmlaedpamobmhaaGreat
open Go.RowKit Go.Deep Go.Joins
set_option linter.unusedVariables false

/-- what is not divided yet, what is taken of each, what is left. -/
structure Dv where
  p : List T
  q : Nat → List T
  r : List T
/-- the greatest term. -/
def ldL (o : Int) (L : List T) : T := lf L (leadAt o (lf L) L.length)
/-- which one takes. -/
def dvK (o : Int) (n : Nat) (ln : Nat → Nat) (f : Nat → Nat → T) (m : M) : Int := idxF (fun t => M.dvd t.m m) (ldAt o ln f) n
def updQ (q : Nat → List T) (k : Nat) (L : List T) (i : Nat) : List T := if i = k then L else q i
/-- what is taken. -/
def dvT (o : Int) (ln : Nat → Nat) (f : Nat → Nat → T) (S : Dv) (k : Nat) : T := overT (ldL o S.p) (ldAt o ln f k)
def dvTake (o : Int) (ln : Nat → Nat) (f : Nat → Nat → T) (S : Dv) (k : Nat) : Option Dv :=
  match mulM (lf [dvT o ln f S k]) (f k) (ln k) 1 with
  | none => none
  | some Y => if (subL S.p Y).length ≤ 400 then some ⟨subL S.p Y, updQ S.q k (addL (S.q k) [dvT o ln f S k]), S.r⟩ else none
def dvLeave (o : Int) (S : Dv) : Dv := ⟨subL S.p [ldL o S.p], S.q, addL S.r [ldL o S.p]⟩
def dvStep (o : Int) (n : Nat) (ln : Nat → Nat) (f : Nat → Nat → T) (S : Dv) : Option Dv :=
  if 0 ≤ dvK o n ln f (ldL o S.p).m then dvTake o ln f S (dvK o n ln f (ldL o S.p).m).toNat else some (dvLeave o S)
def dvRun (o : Int) (n : Nat) (ln : Nat → Nat) (f : Nat → Nat → T) : Nat → Dv → Option Dv
  | 0, S => if S.p.length = 0 then some S else none
  | u + 1, S => if S.p.length = 0 then some S else match dvStep o n ln f S with
    | none => none
    | some S' => dvRun o n ln f u S'
def dvOf (p : List T) : Dv := ⟨p, fun _ => [], []⟩
/-- what RedAll answers; none, if it is too much. -/
def redAll (o : Int) (p : List T) (n : Nat) (ln : Nat → Nat) (f : Nat → Nat → T) : Option Dv :=
  if (1 ≤ o ∧ o ≤ 3) ∧ okL p = true ∧ lstOk n ln f = true then dvRun o n ln f 300 (dvOf p) else none
/-- what is true of a division behind u steps. -/
structure DvOk (u : Nat) (S : Dv) : Prop where
  p : okL S.p = true
  q : ∀ k, Falls (S.q k) ∧ (S.q k).length ≤ u
  r : Falls S.r ∧ S.r.length ≤ u
theorem DvOk.start {p : List T} (h : okL p = true) : DvOk 0 (dvOf p) := ⟨h, fun _ => ⟨falls_nil, Nat.le_refl _⟩, falls_nil, Nat.le_refl _⟩
theorem dvRun_done {o : Int} {n : Nat} {ln : Nat → Nat} {f : Nat → Nat → T} {u : Nat} {S : Dv} (h : S.p.length = 0) : dvRun o n ln f u S = some S := by
  cases u <;> exact if_pos h
theorem dvRun_out {o : Int} {n : Nat} {ln : Nat → Nat} {f : Nat → Nat → T} {S : Dv} (h : S.p.length ≠ 0) : dvRun o n ln f 0 S = none := if_neg h
theorem dvRun_no {o : Int} {n : Nat} {ln : Nat → Nat} {f : Nat → Nat → T} {u : Nat} {S : Dv} (h : S.p.length ≠ 0) (hs : dvStep o n ln f S = none) : dvRun o n ln f (u + 1) S = none := by
  show (if S.p.length = 0 then some S else match dvStep o n ln f S with | none => none | some S' => dvRun o n ln f u S') = none
  rw [if_neg h, hs]
theorem dvRun_step {o : Int} {n : Nat} {ln : Nat → Nat} {f : Nat → Nat → T} {u : Nat} {S S' : Dv} (h : S.p.length ≠ 0) (hs : dvStep o n ln f S = some S') : dvRun o n ln f (u + 1) S = dvRun o n ln f u S' := by
  show (if S.p.length = 0 then some S else match dvStep o n ln f S with | none => none | some S' => dvRun o n ln f u S') = _
  rw [if_neg h, hs]
theorem ldL_mem {o : Int} {L : List T} (h : L.length ≠ 0) : ldL o L ∈ L := lf_mem (leadAt_lt (by omega))
theorem ldL_good {o : Int} {L : List T} (hL : Falls L) (h : L.length ≠ 0) : (ldL o L).m.ok = true ∧ 1 ≤ (ldL o L).c ∧ (ldL o L).c ≤ 100 := hL.2 _ (ldL_mem h)
theorem ldL_is {o : Int} {L : List T} (ho : 1 ≤ o ∧ o ≤ 3) (hL : okL L = true) (h : L.length ≠ 0) : ldL o L = ldT o L := by
  have : leadOk o L.length (lf L) = true := ldB_iff.2 ⟨ho, hL, fun e => h (by rw [e]; rfl)⟩
  unfold ldT
  rw [leadT_yes this]
  rfl
theorem ldL_top {o : Int} {L : List T} (ho : 1 ≤ o ∧ o ≤ 3) (hL : okL L = true) (h : L.length ≠ 0) : ∀ t ∈ L, rkW o t.m ≤ rkW o (ldL o L).m := by
  have : ldB o L = true := ldB_iff.2 ⟨ho, hL, fun e => h (by rw [e]; rfl)⟩
  rw [ldL_is ho hL h]
  exact (ld_top this).2
theorem ldAt_good {o : Int} {n : Nat} {ln : Nat → Nat} {f : Nat → Nat → T} (hl : lstOk n ln f = true) {k : Nat} (hk : k < n) : (ldAt o ln f k).m.ok = true ∧ 1 ≤ (ldAt o ln f k).c ∧ (ldAt o ln f k).c ≤ 100 := by
  obtain ⟨h0, h1⟩ := (lstOk_all hl).2 k hk
  exact (fl_of_ok h1).2 _ (leadAt_lt (by omega))
theorem mul_pos101 {a b : Int} (h1 : 1 ≤ a) (h2 : a ≤ 100) (h3 : 1 ≤ b) (h4 : b ≤ 100) : 1 ≤ a * b % 101 ∧ a * b % 101 ≤ 100 := by
  have h0 : a * b % 101 ≠ 0 := fun e => by
    obtain ⟨x, hx⟩ : ∃ x : Nat, a = x := ⟨a.toNat, by omega⟩
    obtain ⟨y, hy⟩ : ∃ y : Nat, b = y := ⟨b.toNat, by omega⟩
    subst hx hy
    have := prime_nat ⟨x, by omega⟩ ⟨y, by omega⟩ (by simp only; exact_mod_cast e)
    simp at this
    omega
  omega
theorem overT_good {t l : T} (ht : t.m.ok = true ∧ 1 ≤ t.c ∧ t.c ≤ 100) (hl : l.m.ok = true ∧ 1 ≤ l.c ∧ l.c ≤ 100) (hd : l.m.dvd t.m = true) : (overT t l).m.ok = true ∧ 1 ≤ (overT t l).c ∧ (overT t l).c ≤ 100 := by
  have h1 := sprT_good (b := t.m) hl hd
  have h2 := mul_pos101 ht.2.1 ht.2.2 (fInv_pos hl.2.1 hl.2.2) (fInv_bd l.c).2
  exact ⟨h1.1, h2.1, h2.2⟩
theorem dvK_facts {o : Int} {n : Nat} {ln : Nat → Nat} {f : Nat → Nat → T} {m : M} (h : 0 ≤ dvK o n ln f m) : (dvK o n ln f m).toNat < n ∧ M.dvd (ldAt o ln f (dvK o n ln f m).toNat).m m = true := by
  unfold dvK at h ⊢
  obtain ⟨i, hi, hp⟩ := idx_iff.1 h
  obtain ⟨j, hj, h1, h2⟩ : ∃ j, j < n ∧ (∀ i, i < j → (fun t : T => M.dvd t.m m) (ldAt o ln f i) = false) ∧ (fun t : T => M.dvd t.m m) (ldAt o ln f j) = true := by
    clear h
    revert i
    induction n with
    | zero => intro i hi; omega
    | succ n ih =>
      intro i hi hp
      by_cases hx : ∃ i, i < n ∧ (fun t : T => M.dvd t.m m) (ldAt o ln f i) = true
      · obtain ⟨i', h1, h2⟩ := hx
        obtain ⟨j, hj, h3, h4⟩ := ih i' h1 h2
        exact ⟨j, by omega, h3, h4⟩
      · have hin : i = n := by
          rcases Nat.lt_or_ge i n with h | h
          · exact absurd ⟨i, h, hp⟩ hx
          · omega
        subst hin
        refine ⟨i, hi, fun k hk => ?_, hp⟩
        cases hb : (fun t : T => M.dvd t.m m) (ldAt o ln f k) with
        | false => rfl
        | true => exact absurd ⟨k, hk, hb⟩ hx
  rw [idx_hit h1 h2 n hj]
  exact ⟨by simpa using hj, by simpa using h2⟩
theorem fallsOne {t : T} (h : t.m.ok = true ∧ 1 ≤ t.c ∧ t.c ≤ 100) : Falls [t] := (okL_falls (one_ok h)).2
theorem dvT_good {o : Int} {n : Nat} {ln : Nat → Nat} {f : Nat → Nat → T} (hl : lstOk n ln f = true) {S : Dv} (hp : okL S.p = true) (h : S.p.length ≠ 0) (hk : 0 ≤ dvK o n ln f (ldL o S.p).m) :
    (dvT o ln f S (dvK o n ln f (ldL o S.p).m).toNat).m.ok = true ∧ 1 ≤ (dvT o ln f S (dvK o n ln f (ldL o S.p).m).toNat).c ∧ (dvT o ln f S (dvK o n ln f (ldL o S.p).m).toNat).c ≤ 100 :=
  overT_good (ldL_good (okL_falls hp).2 h) (ldAt_good hl (dvK_facts hk).1) (dvK_facts hk).2
theorem mul1_falls {t : T} (ht : t.m.ok = true ∧ 1 ≤ t.c ∧ t.c ≤ 100) {g : Nat → T} {m : Nat} (hg : polOk m g = true) {Y : List T} (h : mulM (lf [t]) g m 1 = some Y) : okL Y = true :=
  okL_of (mulM_len _ Y h) (mulM_falls2 (good_ok (show polOk 1 (lf [t]) = true from one_ok ht)).2 (good_ok hg).2 _ Y (Nat.le_refl _) h)
/-- taking: what is true behind it. -/
theorem DvOk.take {o : Int} {n : Nat} {ln : Nat → Nat} {f : Nat → Nat → T} (hl : lstOk n ln f = true) {u : Nat} {S S' : Dv} (h : DvOk u S) (h0 : S.p.length ≠ 0) (hk : 0 ≤ dvK o n ln f (ldL o S.p).m) (hs : dvTake o ln f S (dvK o n ln f (ldL o S.p).m).toNat = some S') : DvOk (u + 1) S' := by
  have hg := dvT_good hl h.p h0 hk
  have hkn := (dvK_facts hk).1
  generalize (dvK o n ln f (ldL o S.p).m).toNat = k at hs hg hkn
  unfold dvTake at hs
  split at hs
  · cases hs
  · rename_i Y hY
    split at hs
    · rename_i hle
      cases hs
      have fY := mul1_falls hg ((lstOk_all hl).2 k hkn).2 hY
      refine ⟨okL_of hle (subL_facts (okL_falls h.p).2 (okL_falls fY).2).1, fun i => ?_, h.r.1, Nat.le_succ_of_le h.r.2⟩
      show Falls (updQ S.q k _ i) ∧ (updQ S.q k _ i).length ≤ u + 1
      unfold updQ
      split
      · refine ⟨(addL_facts (h.q k).1 (fallsOne hg)).1, ?_⟩
        have h1 := addL_len (S.q k) [dvT o ln f S k]
        have h2 := (h.q k).2
        simp only [List.length_singleton] at h1
        omega
      · exact ⟨(h.q i).1, Nat.le_succ_of_le (h.q i).2⟩
    · cases hs
theorem DvOk.leave {o : Int} {u : Nat} {S : Dv} (h : DvOk u S) (h0 : S.p.length ≠ 0) (hle : (subL S.p [ldL o S.p]).length ≤ 400) : DvOk (u + 1) (dvLeave o S) := by
  have hg := ldL_good (o := o) (okL_falls h.p).2 h0
  refine ⟨okL_of hle (subL_facts (okL_falls h.p).2 (fallsOne hg)).1, fun i => ⟨(h.q i).1, Nat.le_succ_of_le (h.q i).2⟩, (addL_facts h.r.1 (fallsOne hg)).1, ?_⟩
  have h1 := addL_len S.r [ldL o S.p]
  have h2 := h.r.2
  simp only [List.length_singleton] at h1
  show (addL S.r [ldL o S.p]).length ≤ u + 1
  omega
theorem mem_coefV {L : List T} (h : Falls L) {t : T} (ht : t ∈ L) : coef L t.m = t.c ∧ coef L t.m ≠ 0 := by
  have h1 : coef L t.m = t.c := by
    induction L with
    | nil => cases ht
    | cons s r ih =>
      rw [coef]
      rcases List.mem_cons.1 ht with rfl | ht'
      · rw [if_pos (meqB_iff.2 rfl)]
      · have h1 := h.head t ht'
        rw [if_neg (fun e => by rw [meqB_iff.1 e] at h1; omega)]
        exact ih h.tail ht'
  have h2 := h.2 t ht
  exact ⟨h1, by omega⟩
/-- a term that is taken away is gone. -/
theorem sub_one_len {L : List T} (hL : Falls L) {t : T} (ht : t ∈ L) : (subL L [t]).length < L.length := by
  have ht' := hL.2 t ht
  have hf := subL_facts hL (fallsOne ht')
  have hm := mem_coefV hL ht
  have key : subL L [t] = L.filter (fun s => !meqB s.m t.m) := by
    refine falls_one hf.1 ⟨hL.1.filter _, fun s hs => hL.2 s (List.mem_filter.1 hs).1⟩ (fun m hmo => ?_)
    rw [hf.2 m]
    by_cases e : t.m = m
    · subst e
      have h1 : coef [t] t.m = t.c := coef_cons_same _ _
      rw [h1, hm.1]
      have h2 : coef (L.filter (fun s => !meqB s.m t.m)) t.m = 0 := by
        by_cases hz : coef (L.filter (fun s => !meqB s.m t.m)) t.m = 0
        · exact hz
        · obtain ⟨s, hs, he⟩ := List.mem_map.1 (coef_mem hz)
          have := (List.mem_filter.1 hs).2
          rw [meqB_iff.2 he] at this
          cases this
      rw [h2]; omega
    · have h1 : coef [t] m = 0 := by rw [coef_cons_ne e]; rfl
      have hb := coef_range hL m
      rw [h1]
      have h2 : coef (L.filter (fun s => !meqB s.m t.m)) m = coef L m := by
        by_cases hz : coef L m = 0
        · rw [hz]
          by_cases hz2 : coef (L.filter (fun s => !meqB s.m t.m)) m = 0
          · exact hz2
          · obtain ⟨s, hs, he⟩ := List.mem_map.1 (coef_mem hz2)
            have h3 := (mem_coefV hL (List.mem_filter.1 hs).1).2
            rw [show s.m = m from he] at h3
            exact absurd hz h3
        · obtain ⟨s, hs, he⟩ := List.mem_map.1 (coef_mem hz)
          have he : s.m = m := he
          subst he
          have h4 : s ∈ L.filter (fun s => !meqB s.m t.m) := List.mem_filter.2 ⟨hs, by rw [meqB_no.2 (fun e' => e e'.symm)]; rfl⟩
          rw [(mem_coefV hL hs).1, (mem_coefV (L := L.filter (fun s => !meqB s.m t.m)) ⟨hL.1.filter _, fun s hs => hL.2 s (List.mem_filter.1 hs).1⟩ h4).1]
      rw [h2]; omega
  rw [key]
  refine List.length_filter_lt_length_iff_exists.2 ⟨t, ht, ?_⟩
  rw [meqB_iff.2 rfl]; decide
theorem dvStep_ok {o : Int} {n : Nat} {ln : Nat → Nat} {f : Nat → Nat → T} (hl : lstOk n ln f = true) {u : Nat} {S S' : Dv} (h : DvOk u S) (h0 : S.p.length ≠ 0) (hs : dvStep o n ln f S = some S') : DvOk (u + 1) S' := by
  unfold dvStep at hs
  split at hs
  · exact h.take hl h0 (by assumption) hs
  · cases hs
    have := sub_one_len (okL_falls h.p).2 (ldL_mem (o := o) h0)
    have h4 := (okL_falls h.p).1
    exact h.leave h0 (by omega)
theorem dvRun_ok {o : Int} {n : Nat} {ln : Nat → Nat} {f : Nat → Nat → T} (hl : lstOk n ln f = true) : ∀ {v u : Nat} {S S' : Dv}, DvOk u S → dvRun o n ln f v S = some S' → DvOk (u + v) S' ∧ S'.p = []
  | 0, u, S, S', h, hr => by
    unfold dvRun at hr
    split at hr
    · rename_i h0
      cases hr
      exact ⟨h, List.length_eq_zero_iff.1 h0⟩
    · cases hr
  | v + 1, u, S, S', h, hr => by
    by_cases h0 : S.p.length = 0
    · rw [dvRun_done h0] at hr
      cases hr
      exact ⟨⟨h.p, fun k => ⟨(h.q k).1, by have := (h.q k).2; omega⟩, h.r.1, by have := h.r.2; omega⟩, List.length_eq_zero_iff.1 h0⟩
    · cases hs : dvStep o n ln f S with
      | none => rw [dvRun_no h0 hs] at hr; cases hr
      | some S1 =>
        rw [dvRun_step h0 hs] at hr
        have := dvRun_ok hl (dvStep_ok hl h h0 hs) hr
        rw [show u + (v + 1) = u + 1 + v by omega]
        exact this
end Go.Proofs.YtmlaedpamobmhaaGreat
namespace Go.Proofs.YtmlaedpamobmhaaGreat
open Go.RowKit Go.Deep Go.Joins Go.Maps
set_option linter.unusedVariables false

theorem Own5.grown {w w' : World} {b : Nat} {t : T} {row : Option Nat} (h : Own5 w b t) (hg : w.grownBy w' row) (hne : some b ≠ row) : Own5 w' b t := by
  have hl := h.1.lt
  have hb := hg.block b hl hne
  obtain ⟨⟨h0, h1, h2, h3, h4⟩, h5⟩ := h
  exact ⟨⟨(World.cell?_of_block (a := ⟨b, 0, none⟩) hb).trans h0, (World.cell?_of_block (a := ⟨b, 1, none⟩) hb).trans h1, (World.cell?_of_block (a := ⟨b, 2, none⟩) hb).trans h2, (World.cell?_of_block (a := ⟨b, 3, none⟩) hb).trans h3, (World.cell?_of_block (a := ⟨b, 4, none⟩) hb).trans h4⟩, fun j => (World.frozen?_of_block (a := ⟨b, j, none⟩) hb).trans (h5 j)⟩
theorem CollM.all {D : DataW Unit} {left : Lit → Bool} {ss : List M} {c : M → Int} (h : CollM D left ss) (hl : ∀ kl, left kl = false) (hat : ∀ m : M, m.ok = true → D.atKey (keyM m) (.lit (.int .i64 0)) = .lit (.int .i64 (c m)) ∧ (Maps.has D (keyM m) = true ↔ c m ≠ 0)) : ∀ m : M, m.ok = true → (m ∈ ss ↔ c m ≠ 0) := fun m hm => by
  rw [h.2.2 m hm, hl]
  simp [(hat m hm).2]
end Go.Proofs.YtmlaedpamobmhaaGreat
