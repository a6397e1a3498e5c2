/-
  Bases that are made: each proves itself, and one that is done is a basis.
  A pair, divided: what is taken of each and what is left; too much ends in a panic.
  Whether operators are a basis: the program's GrbOk.
-/
import Derived.Test.YtdidlcjhodejjaaGreatSbt
import Derived.Test.YtdidlcjhodejjaaGreatSbq
import Derived.Test.YtdidlcjhodejjaaGreatSbp
import Derived.Test.YtdidlcjhodejjaaGreatSbf
import Derived.Deep.LoopGhost
namespace Go.Proofs.YtdidlcjhodejjaaGreat
open Go.RowKit Go.Deep Go.Joins
set_option linter.unusedVariables false

theorem wm_mulM {q X P : List T} (hq : okL q = true) (hX : okL X = true) (h : mulM (lf q) (lf X) X.length q.length = some P) : wmV q X = (P, true) := by
  unfold wmV wylMul
  rw [if_pos ⟨hq, hX⟩, h]
  rfl
theorem lessE_Rp (g : Gen) {R q X Y : List T} (hR : okL R = true) (hq : okL q = true) (hX : okL X = true) (h : lessE R q X = some Y) : Rp g Y = Lq.sum (Rp g R) (Lq.sc (-1) (Lq.mul (Rp g q) (Rp g X))) := by
  unfold lessE at h
  split at h
  · rename_i P hP
    split at h
    · have hw := wm_mulM hq hX hP
      cases h
      rw [Rp_sub g (okL_falls hR).2 (okL_falls (wm_ok hw)).2, Rp_mul g hw, zz100]
    · cases h
  · cases h
theorem lessR_Rp {row : Nat → List T} {q : List T} {oth : Nat → List T} {g : Nat} (hrow : ∀ i, i < g → okL (row i) = true) (hq : okL q = true) (ho : ∀ i, i < g → okL (oth i) = true) : ∀ j R, j ≤ g → lessR row q oth j = some R → ∀ i, i < j → Rp regG (R i) = Lq.sum (Rp regG (row i)) (Lq.sc (-1) (Lq.mul (Rp regG q) (Rp regG (oth i))))
  | 0, R, _, _, i, hi => by omega
  | j + 1, R, hj, h, i, hi => by
    cases hr : lessR row q oth j with
    | none => have := lessR_none hr 1; rw [this] at h; cases h
    | some R1 =>
      cases he : lessE (row j) q (oth j) with
      | none => have := lessR_bad (g := j + 1) (by omega) hr he; rw [this] at h; cases h
      | some Y =>
        rw [lessR_step hr he] at h
        cases h
        unfold updL
        split
        · rename_i e
          subst e
          exact lessE_Rp regG (hrow i (by omega)) hq (ho i (by omega)) he
        · exact lessR_Rp hrow hq ho j R1 (by omega) hr i (by omega)
theorem qsum_less {g : Nat} {L0 row oth R : Nat → List T} {A : Lq} (h : ∀ i, i < g → Rp regG (R i) = Lq.sum (Rp regG (row i)) (Lq.sc (-1) (Lq.mul A (Rp regG (oth i))))) : qsum regG g L0 R = Lq.sum (qsum regG g L0 row) (Lq.sc (-1) (Lq.mul A (qsum regG g L0 oth))) := by
  unfold qsum
  rw [Lq.mul_sumN, Lq.sc_sumN, ← Lq.sumN_sum]
  exact Lq.sumN_congr fun i hi => by rw [h i hi, Lq.sum_mul, Lq.sc_mul, Lq.mul_assoc]
theorem lessR_qsum {g : Nat} {L0 row oth R : Nat → List T} {q : List T} (hrow : ∀ i, i < g → okL (row i) = true) (hq : okL q = true) (ho : ∀ i, i < g → okL (oth i) = true) (h : lessR row q oth g = some R) : qsum regG g L0 R = Lq.sum (qsum regG g L0 row) (Lq.sc (-1) (Lq.mul (Rp regG q) (qsum regG g L0 oth))) :=
  qsum_less (lessR_Rp hrow hq ho g R (Nat.le_refl _) h)
theorem zz_neg1 (c : Int) : zz (101 - c) = -(zz c) := by
  have h : zz (101 - c) + zz c = 0 := by rw [← zz_add, show 101 - c + c = 101 by omega]; rfl
  grind
theorem made_qsum {g m : Nat} {L0 L : Nat → List T} {P : Nat → Nat → List T} {i k : Nat} {u v : T} {qs : Nat → List T} (hi : i < m) (hk : k < m) (hP : ∀ i, i < m → ∀ j, j < g → okL (P i j) = true) (hu : okL [negT1 u] = true) (hv : okL [v] = true) (hq : ∀ t, t < m → okL (qs t) = true) (hpf : ∀ i, i < m → qsum regG g L0 (P i) = Rp regG (L i)) :
    ∀ t R, t ≤ m → madeN g P qs (made1 g P i k u v) t = some R → qsum regG g L0 R = Lq.sum (Lq.sum (Lq.sc (zz u.c) (Lq.mul (mo regG u.m) (Rp regG (L i)))) (Lq.sc (-(zz v.c)) (Lq.mul (mo regG v.m) (Rp regG (L k))))) (Lq.sc (-1) (qsum regG t L qs))
  | 0, R, _, h => by
    change made1 g P i k u v = some R at h
    unfold made1 at h
    split at h
    · cases h
    · rename_i R1 h1
      have ok1 := lessR_ok (fun _ _ => okL_nil) hu (hP i hi) g R1 (Nat.le_refl _) h1
      rw [lessR_qsum ok1 hv (hP k hk) h, lessR_qsum (fun _ _ => okL_nil) hu (hP i hi) h1, hpf i hi, hpf k hk, qsum_nil, Rp_one, Rp_one]
      have e : qsum regG 0 L qs = Lq.nil := rfl
      rw [e, sc_nil, Lq.sum_nil, nil_sum, Lq.sc_mul, Lq.sc_mul, Lq.sc_sc, Lq.sc_sc]
      show Lq.sum (Lq.sc (-1 * zz (101 - u.c)) _) _ = _
      rw [zz_neg1, show (-1 : Fq) * -(zz u.c) = zz u.c by grind, show (-1 : Fq) * zz v.c = -(zz v.c) by grind]
      rfl
  | t + 1, R, ht, h => by
    cases hr : madeN g P qs (made1 g P i k u v) t with
    | none => have := madeN_none hr 1; rw [this] at h; cases h
    | some R1 =>
      have h' : lessR R1 (qs t) (P t) g = some R := by
        have : madeN g P qs (made1 g P i k u v) (t + 1) = lessR R1 (qs t) (P t) g := by
          show (match madeN g P qs (made1 g P i k u v) t with | none => none | some R => lessR R (qs t) (P t) g) = _
          rw [hr]
        rw [← this]; exact h
      rw [lessR_qsum (made_ok hi hk hP hu hv hq t R1 (by omega) hr) (hq t (by omega)) (hP t (by omega)) h', made_qsum hi hk hP hu hv hq hpf t R1 (by omega) hr, hpf t (by omega)]
      have e : qsum regG (t + 1) L qs = Lq.sum (qsum regG t L qs) (Lq.mul (Rp regG (qs t)) (Rp regG (L t))) := rfl
      rw [e]
      refine Lq.ext fun u a b => ?_
      simp only [sum_f, sc_f]
      grind
/-! lists that grow -/
theorem lmL_same {o : Int} {L L' : Nat → List T} {j : Nat} (h : L' j = L j) : lmL o L' j = lmL o L j := by unfold lmL; rw [h]
theorem Lo.grow {o : Int} {n n' : Nat} {L L' : Nat → List T} (hn : n ≤ n') (h : ∀ j, j < n → L' j = L j) {δ : M} {A : Lq} (hA : Lo o n L δ A) : Lo o n' L' δ A := by
  induction hA with
  | nil => exact Lo.nil
  | cons c m j h1 h2 h3 h4 ih =>
    rw [← h j h1]
    exact Lo.cons c m j (by omega) h2 (by rw [lmL_same (h j h1)]; exact h3) ih
theorem Pair.grow {o : Int} {n n' : Nat} {L L' : Nat → List T} (hn : n ≤ n') (h : ∀ j, j < n → L' j = L j) {i k : Nat} (hi : i < n) (hk : k < n) (hP : Pair o n L i k) : Pair o n' L' i k := fun u v hu hv => by
  rw [h i hi] at hu
  rw [h k hk] at hv
  rw [lmL_same (h i hi), lmL_same (h k hk), h i hi, h k hk]
  exact (hP u v hu hv).grow hn h
theorem updL_lt {L : Nat → List T} {m : Nat} {r : List T} {j : Nat} (h : j < m) : updL L m r j = L j := by unfold updL; rw [if_neg (by omega)]
theorem updL_eq {L : Nat → List T} {m : Nat} {r : List T} : updL L m r m = r := by unfold updL; rw [if_pos rfl]
theorem updP_lt {P : Nat → Nat → List T} {m : Nat} {R : Nat → List T} {j : Nat} (h : j < m) : updP P m R j = P j := by unfold updP; rw [if_neg (by omega)]
theorem updP_eq {P : Nat → Nat → List T} {m : Nat} {R : Nat → List T} : updP P m R m = R := by unfold updP; rw [if_pos rfl]
/-- what is true of a basis on its way, all the time. -/
structure Mk (o : Int) (g : Nat) (L0 : Nat → List T) (B : Bs) (j : Nat) : Prop where
  ok : BsOk o g B
  le : g ≤ B.m
  pre : ∀ i, i < g → B.L i = L0 i
  pf : ∀ i, i < B.m → qsum regG g L0 (B.P i) = Rp regG (B.L i)
  pr : ∀ i k, i < k → k < B.m → tri k + i < j → Pair o B.m B.L i k
theorem stepB_cases {o : Int} {g : Nat} {B B' : Bs} {i k : Nat} (hs : stepB o g B i k = some B') : ∃ s S, spP o (B.L i) (B.L k) = (s, true) ∧ redAll o s B.m (lN B.L) (fN B.L) = some S ∧ ((S.r = [] ∧ B' = B) ∨ (S.r.length ≠ 0 ∧ ∃ R, made g B.P i k (spU o (B.L i) (B.L k)) (spV o (B.L i) (B.L k)) B.m S.q = some R ∧ B' = addB B S.r R)) := by
  unfold stepB at hs
  split at hs
  · rename_i s hsp
    split at hs
    · rename_i S hS
      refine ⟨s, S, hsp, hS, ?_⟩
      split at hs
      · rename_i h0; cases hs; exact .inl ⟨List.length_eq_zero_iff.1 h0, rfl⟩
      · rename_i h0
        split at hs
        · cases hs
        · split at hs
          · rename_i R hR
            cases hs
            exact .inr ⟨h0, R, hR, rfl⟩
          · cases hs
    · cases hs
  · cases hs
theorem Mk.step {o : Int} {g : Nat} {L0 : Nat → List T} {B B' : Bs} {j : Nat} (h : Mk o g L0 B j) (hj : j < tri B.m) (hs : stepB o g B (pq j).1 (pq j).2 = some B') : Mk o g L0 B' (j + 1) := by
  obtain ⟨k, i, hk, hik, ej⟩ := tri_at B.m j hj
  have epq : pq j = (i, k) := by rw [ej]; exact pq_tri k i hik
  rw [epq] at hs
  have hs' : stepB o g B i k = some B' := hs
  have hi : i < B.m := by omega
  have hok' := stepB_ok h.ok hi hk hs'
  have hL := lds_of h.ok.ho h.ok.l
  obtain ⟨s, S, hsp, hS, hc⟩ := stepB_cases hs'
  have one : ∀ i' k', i' < k' → tri k' + i' < j + 1 → tri k' + i' < j ∨ (i' = i ∧ k' = k) := fun i' k' h1 h2 => by
    by_cases e : tri k' + i' = j
    · have := pq_tri k' i' h1
      rw [e, epq] at this
      cases this
      exact .inr ⟨rfl, rfl⟩
    · exact .inl (by omega)
  obtain ⟨U, V, eU, eV, u1, v1, um, vm, e, k1, hb⟩ := std_rep hL hi hk hsp
  obtain ⟨lo1, lo2⟩ := std_div hL hS k1 hb
  rcases hc with ⟨h0, rfl⟩ | ⟨h0, R, hR, rfl⟩
  · refine ⟨hok', h.le, h.pre, h.pf, fun i' k' h1 h2 h3 => ?_⟩
    rcases one i' k' h1 h3 with q | ⟨rfl, rfl⟩
    · exact h.pr i' k' h1 h2 q
    · exact pair_done hL hi hk hsp hS h0
  · have hok2 := hok'
    have hle := h.le
    refine ⟨hok', by show g ≤ B.m + 1; omega, fun i' hi' => (updL_lt (by omega)).trans (h.pre i' hi'), fun i' hi' => ?_, fun i' k' h1 h2 h3 => ?_⟩
    · show qsum regG g L0 (updP B.P B.m R i') = Rp regG (updL B.L B.m S.r i')
      by_cases ei : i' = B.m
      · subst ei
        rw [updP_eq, updL_eq]
        obtain ⟨⟨_, g2, g3⟩, _⟩ := spUV_good hsp
        rw [made_qsum hi hk h.ok.p g2 g3 (fun t _ => okL_of (by have := ((redAll_ok hS).1.q t).2; omega) ((redAll_ok hS).1.q t).1) h.pf B.m R (Nat.le_refl _) hR, left_Rp hS, e, eU, eV]
      · have hi2 : i' < B.m + 1 := hi'
        rw [updP_lt (by omega), updL_lt (by omega)]
        exact h.pf i' (by omega)
    · have grow : ∀ j, j < B.m → updL B.L B.m S.r j = B.L j := fun j hj => updL_lt hj
      have hk' : k' < B.m := by
        have h2' : k' < B.m + 1 := h2
        by_cases ek : k' = B.m
        · subst ek; omega
        · omega
      show Pair o (B.m + 1) (updL B.L B.m S.r) i' k'
      rcases one i' k' h1 h3 with q | ⟨rfl, rfl⟩
      · exact (h.pr i' k' h1 hk' q).grow (by omega) grow (by omega) hk'
      · have hL' := lds_of hok2.ho hok2.l
        have hL2 : Lds o (B.m + 1) (updL B.L B.m S.r) := hL'
        refine pair_std hL2 (by omega) (by omega) (s := s) (by rw [grow i' hi, grow k' hk]; exact hsp) ?_
        rw [lmL_same (grow i' hi), lmL_same (grow k' hk), ← redAll_all regG hS]
        refine (lo1.grow (by omega) grow).sum ?_
        have hmem : ldL o S.r ∈ S.r := ldL_mem h0
        have hr := (redAll_ok hS).1.r.1
        have := Lo.one (o := o) (n := B.m + 1) (L := updL B.L B.m S.r) (δ := M.lcm (lmL o B.L i') (lmL o B.L k')) 1 (m := ⟨0, 0, 0, 0⟩) (j := B.m) (by omega) ⟨by decide, by decide, by decide, by decide⟩ (by
          have e0 : M.sum ⟨0, 0, 0, 0⟩ (lmL o (updL B.L B.m S.r) B.m) = (ldL o S.r).m := by
            unfold lmL
            rw [updL_eq]
            unfold M.sum
            refine M.eta4 ?_ ?_ ?_ ?_ <;> (simp only; omega)
          rw [e0]
          exact rkW_klt hL.ho (hr.2 _ hmem).1 k1 (lo2 _ hmem))
        rw [Lq.sc_one, mo_zero, updL_eq] at this
        exact this
theorem grun_inv {o : Int} {g : Nat} {L0 : Nat → List T} : ∀ (f : Nat) (B : Bs) (j : Nat), Mk o g L0 B j → ∀ B' d, grun o g f B j = (B', d) → ∃ j', Mk o g L0 B' j' ∧ (d = true → tri B'.m ≤ j')
  | 0, B, j, h, B', d, e => by
    unfold grun at e
    cases e
    exact ⟨j, h, fun q => of_decide_eq_true q⟩
  | f + 1, B, j, h, B', d, e => by
    unfold grun at e
    split at e
    · rename_i hj
      split at e
      · cases e; exact ⟨j, h, fun q => by cases q⟩
      · rename_i B2 hs
        exact grun_inv f B2 (j + 1) (h.step hj hs) B' d e
    · cases e
      exact ⟨j, h, fun _ => by omega⟩
theorem sumN_one (f : Nat → Lq) (i : Nat) : ∀ n, i < n → (∀ j, j < n → j ≠ i → f j = Lq.nil) → Lq.sumN f n = f i
  | 0, h, _ => by omega
  | n + 1, h, h0 => by
    show Lq.sum (Lq.sumN f n) (f n) = f i
    by_cases e : i = n
    · subst e
      have : Lq.sumN f i = Lq.sumN (fun _ => Lq.nil) i := Lq.sumN_congr fun j hj => h0 j (by omega) (by omega)
      rw [this, sumN_nils, nil_sum]
    · rw [sumN_one f i n (by omega) (fun j hj => h0 j (by omega)), h0 n (by omega) (fun q => e q.symm), Lq.sum_nil]
theorem one_qsum {n : Nat} {L : Nat → List T} {i : Nat} (hi : i < n) : qsum regG n L (oneP i) = Rp regG (L i) := by
  unfold qsum
  rw [sumN_one _ i n hi (fun j hj hne => by
    unfold oneP
    rw [if_neg hne, Rp_nil, Lq.nil_mul])]
  unfold oneP
  rw [if_pos rfl, Rp_one, Lq.sc_mul, mo_zero]
  exact Lq.sc_one _
theorem Mk.start {o : Int} {n : Nat} {L : Nat → List T} (ho : 1 ≤ o ∧ o ≤ 3) (hl : lstOk n (lN L) (fN L) = true) : Mk o n L (grb0 n L) 0 :=
  ⟨grb0_ok ho hl, Nat.le_refl _, fun _ _ => rfl, fun i hi => one_qsum hi, fun i k _ _ h => by omega⟩
/-- what GrbMake makes. -/
theorem grbMake_mk {o : Int} {n : Nat} {L : Nat → List T} {fuel : Int} {B : Bs} {d : Bool} (h : grbMake o n L fuel = (B, d)) : (B.m = 0 ∧ d = false ∧ ¬ ((1 ≤ o ∧ o ≤ 3) ∧ lstOk n (lN L) (fN L) = true ∧ (1 ≤ n ∧ n ≤ 3) ∧ (0 ≤ fuel ∧ fuel ≤ 60))) ∨ (((1 ≤ o ∧ o ≤ 3) ∧ lstOk n (lN L) (fN L) = true ∧ (1 ≤ n ∧ n ≤ 3) ∧ (0 ≤ fuel ∧ fuel ≤ 60)) ∧ ∃ j, Mk o n L B j ∧ (d = true → tri B.m ≤ j)) := by
  unfold grbMake at h
  split at h
  · rename_i hc
    exact .inr ⟨hc, grun_inv fuel.toNat _ 0 (Mk.start hc.1 hc.2.1) B d h⟩
  · rename_i hc
    cases h
    exact .inl ⟨rfl, rfl, hc⟩
end Go.Proofs.YtdidlcjhodejjaaGreat
namespace Go.Proofs.YtdidlcjhodejjaaGreat
open Go.RowKit Go.Deep Go.Joins
set_option linter.unusedVariables false

end Go.Proofs.YtdidlcjhodejjaaGreat
namespace Go.Proofs.YtdidlcjhodejjaaGreat
open Go.RowKit Go.Deep Go.Joins
set_option linter.unusedVariables false

end Go.Proofs.YtdidlcjhodejjaaGreat
