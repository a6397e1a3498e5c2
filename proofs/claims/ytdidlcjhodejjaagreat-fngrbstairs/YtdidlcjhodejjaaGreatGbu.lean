/-
  Bases that are made: each proves itself, and one that is done is a basis.
  A pair, divided: what is taken of each and what is left; too much ends in a panic.
  Whether operators are a basis: the program's GrbOk.
-/
import Derived.Test.YtdidlcjhodejjaaGreatGbt
import Derived.Test.YtdidlcjhodejjaaGreatGbq
import Derived.Test.YtdidlcjhodejjaaGreatGbp
import Derived.Test.YtdidlcjhodejjaaGreatGbf
import Derived.Deep.LoopGhost
namespace Go.Proofs.YtdidlcjhodejjaaGreat
open Go.RowKit Go.Deep Go.Joins
set_option linter.unusedVariables false

theorem wm_mulM {q X P : List T} (hq : okL q = true) (hX : okL X = true) (h : mulM (lf q) (lf X) X.length q.length = some P) : wmV q X = (P, true) := by
  unfold wmV wylMul
  rw [if_pos ⟨hq, hX⟩, h]
  rfl
theorem lessE_Rp (g : Gen) {R q X Y : List T} (hR : okL R = true) (hq : okL q = true) (hX : okL X = true) (h : lessE R q X = some Y) : Rp g Y = Lq.sum (Rp g R) (Lq.sc (-1) (Lq.mul (Rp g q) (Rp g X))) := by
  unfold lessE at h
  split at h
  · rename_i P hP
    split at h
    · have hw := wm_mulM hq hX hP
      cases h
      rw [Rp_sub g (okL_falls hR).2 (okL_falls (wm_ok hw)).2, Rp_mul g hw, zz100]
    · cases h
  · cases h
theorem lessR_Rp {row : Nat → List T} {q : List T} {oth : Nat → List T} {g : Nat} (hrow : ∀ i, i < g → okL (row i) = true) (hq : okL q = true) (ho : ∀ i, i < g → okL (oth i) = true) : ∀ j R, j ≤ g → lessR row q oth j = some R → ∀ i, i < j → Rp regG (R i) = Lq.sum (Rp regG (row i)) (Lq.sc (-1) (Lq.mul (Rp regG q) (Rp regG (oth i))))
  | 0, R, _, _, i, hi => by omega
  | j + 1, R, hj, h, i, hi => by
    cases hr : lessR row q oth j with
    | none => have := lessR_none hr 1; rw [this] at h; cases h
    | some R1 =>
      cases he : lessE (row j) q (oth j) with
      | none => have := lessR_bad (g := j + 1) (by omega) hr he; rw [this] at h; cases h
      | some Y =>
        rw [lessR_step hr he] at h
        cases h
        unfold updL
        split
        · rename_i e
          subst e
          exact lessE_Rp regG (hrow i (by omega)) hq (ho i (by omega)) he
        · exact lessR_Rp hrow hq ho j R1 (by omega) hr i (by omega)
theorem qsum_less {g : Nat} {L0 row oth R : Nat → List T} {A : Lq} (h : ∀ i, i < g → Rp regG (R i) = Lq.sum (Rp regG (row i)) (Lq.sc (-1) (Lq.mul A (Rp regG (oth i))))) : qsum regG g L0 R = Lq.sum (qsum regG g L0 row) (Lq.sc (-1) (Lq.mul A (qsum regG g L0 oth))) := by
  unfold qsum
  rw [Lq.mul_sumN, Lq.sc_sumN, ← Lq.sumN_sum]
  exact Lq.sumN_congr fun i hi => by rw [h i hi, Lq.sum_mul, Lq.sc_mul, Lq.mul_assoc]
theorem lessR_qsum {g : Nat} {L0 row oth R : Nat → List T} {q : List T} (hrow : ∀ i, i < g → okL (row i) = true) (hq : okL q = true) (ho : ∀ i, i < g → okL (oth i) = true) (h : lessR row q oth g = some R) : qsum regG g L0 R = Lq.sum (qsum regG g L0 row) (Lq.sc (-1) (Lq.mul (Rp regG q) (qsum regG g L0 oth))) :=
  qsum_less (lessR_Rp hrow hq ho g R (Nat.le_refl _) h)
theorem zz_neg1 (c : Int) : zz (101 - c) = -(zz c) := by
  have h : zz (101 - c) + zz c = 0 := by rw [← zz_add, show 101 - c + c = 101 by omega]; rfl
  grind
theorem made_qsum {g m : Nat} {L0 L : Nat → List T} {P : Nat → Nat → List T} {i k : Nat} {u v : T} {qs : Nat → List T} (hi : i < m) (hk : k < m) (hP : ∀ i, i < m → ∀ j, j < g → okL (P i j) = true) (hu : okL [negT1 u] = true) (hv : okL [v] = true) (hq : ∀ t, t < m → okL (qs t) = true) (hpf : ∀ i, i < m → qsum regG g L0 (P i) = Rp regG (L i)) :
    ∀ t R, t ≤ m → madeN g P qs (made1 g P i k u v) t = some R → qsum regG g L0 R = Lq.sum (Lq.sum (Lq.sc (zz u.c) (Lq.mul (mo regG u.m) (Rp regG (L i)))) (Lq.sc (-(zz v.c)) (Lq.mul (mo regG v.m) (Rp regG (L k))))) (Lq.sc (-1) (qsum regG t L qs))
  | 0, R, _, h => by
    change made1 g P i k u v = some R at h
    unfold made1 at h
    split at h
    · cases h
    · rename_i R1 h1
      have ok1 := lessR_ok (fun _ _ => okL_nil) hu (hP i hi) g R1 (Nat.le_refl _) h1
      rw [lessR_qsum ok1 hv (hP k hk) h, lessR_qsum (fun _ _ => okL_nil) hu (hP i hi) h1, hpf i hi, hpf k hk, qsum_nil, Rp_one, Rp_one]
      have e : qsum regG 0 L qs = Lq.nil := rfl
      rw [e, sc_nil, Lq.sum_nil, nil_sum, Lq.sc_mul, Lq.sc_mul, Lq.sc_sc, Lq.sc_sc]
      show Lq.sum (Lq.sc (-1 * zz (101 - u.c)) _) _ = _
      rw [zz_neg1, show (-1 : Fq) * -(zz u.c) = zz u.c by grind, show (-1 : Fq) * zz v.c = -(zz v.c) by grind]
      rfl
  | t + 1, R, ht, h => by
    cases hr : madeN g P qs (made1 g P i k u v) t with
    | none => have := madeN_none hr 1; rw [this] at h; cases h
    | some R1 =>
      have h' : lessR R1 (qs t) (P t) g = some R := by
        have : madeN g P qs (made1 g P i k u v) (t + 1) = lessR R1 (qs t) (P t) g := by
          show (match madeN g P qs (made1 g P i k u v) t with | none => none | some R => lessR R (qs t) (P t) g) = _
          rw [hr]
        rw [← this]; exact h
      rw [lessR_qsum (made_ok hi hk hP hu hv hq t R1 (by omega) hr) (hq t (by omega)) (hP t (by omega)) h', made_qsum hi hk hP hu hv hq hpf t R1 (by omega) hr, hpf t (by omega)]
      have e : qsum regG (t + 1) L qs = Lq.sum (qsum regG t L qs) (Lq.mul (Rp regG (qs t)) (Rp regG (L t))) := rfl
      rw [e]
      refine Lq.ext fun u a b => ?_
      simp only [sum_f, sc_f]
      grind
/-! lists that grow -/
theorem lmL_same {o : Int} {L L' : Nat → List T} {j : Nat} (h : L' j = L j) : lmL o L' j = lmL o L j := by unfold lmL; rw [h]
theorem Lo.grow {o : Int} {n n' : Nat} {L L' : Nat → List T} (hn : n ≤ n') (h : ∀ j, j < n → L' j = L j) {δ : M} {A : Lq} (hA : Lo o n L δ A) : Lo o n' L' δ A := by
  induction hA with
  | nil => exact Lo.nil
  | cons c m j h1 h2 h3 h4 ih =>
    rw [← h j h1]
    exact Lo.cons c m j (by omega) h2 (by rw [lmL_same (h j h1)]; exact h3) ih
theorem Pair.grow {o : Int} {n n' : Nat} {L L' : Nat → List T} (hn : n ≤ n') (h : ∀ j, j < n → L' j = L j) {i k : Nat} (hi : i < n) (hk : k < n) (hP : Pair o n L i k) : Pair o n' L' i k := fun u v hu hv => by
  rw [h i hi] at hu
  rw [h k hk] at hv
  rw [lmL_same (h i hi), lmL_same (h k hk), h i hi, h k hk]
  exact (hP u v hu hv).grow hn h
theorem updL_lt {L : Nat → List T} {m : Nat} {r : List T} {j : Nat} (h : j < m) : updL L m r j = L j := by unfold updL; rw [if_neg (by omega)]
theorem updL_eq {L : Nat → List T} {m : Nat} {r : List T} : updL L m r m = r := by unfold updL; rw [if_pos rfl]
theorem updP_lt {P : Nat → Nat → List T} {m : Nat} {R : Nat → List T} {j : Nat} (h : j < m) : updP P m R j = P j := by unfold updP; rw [if_neg (by omega)]
theorem updP_eq {P : Nat → Nat → List T} {m : Nat} {R : Nat → List T} : updP P m R m = R := by unfold updP; rw [if_pos rfl]
/-- what is true of a basis on its way, all the time. -/
structure Mk (o : Int) (g : Nat) (L0 : Nat → List T) (B : Bs) (j : Nat) : Prop where
  ok : BsOk o g B
  le : g ≤ B.m
  pre : ∀ i, i < g → B.L i = L0 i
  pf : ∀ i, i < B.m → qsum regG g L0 (B.P i) = Rp regG (B.L i)
  pr : ∀ i k, i < k → k < B.m → tri k + i < j → Pair o B.m B.L i k
theorem stepB_cases {o : Int} {g : Nat} {B B' : Bs} {i k : Nat} (hs : stepB o g B i k = some B') : ∃ s S, spP o (B.L i) (B.L k) = (s, true) ∧ redAll o s B.m (lN B.L) (fN B.L) = some S ∧ ((S.r = [] ∧ B' = B) ∨ (S.r.length ≠ 0 ∧ ∃ R, made g B.P i k (spU o (B.L i) (B.L k)) (spV o (B.L i) (B.L k)) B.m S.q = some R ∧ B' = addB B S.r R)) := by
  unfold stepB at hs
  split at hs
  · rename_i s hsp
    split at hs
    · rename_i S hS
      refine ⟨s, S, hsp, hS, ?_⟩
      split at hs
      · rename_i h0; cases hs; exact .inl ⟨List.length_eq_zero_iff.1 h0, rfl⟩
      · rename_i h0
        split at hs
        · cases hs
        · split at hs
          · rename_i R hR
            cases hs
            exact .inr ⟨h0, R, hR, rfl⟩
          · cases hs
    · cases hs
  · cases hs
theorem Mk.step {o : Int} {g : Nat} {L0 : Nat → List T} {B B' : Bs} {j : Nat} (h : Mk o g L0 B j) (hj : j < tri B.m) (hs : stepB o g B (pq j).1 (pq j).2 = some B') : Mk o g L0 B' (j + 1) := by
  obtain ⟨k, i, hk, hik, ej⟩ := tri_at B.m j hj
  have epq : pq j = (i, k) := by rw [ej]; exact pq_tri k i hik
  rw [epq] at hs
  have hs' : stepB o g B i k = some B' := hs
  have hi : i < B.m := by omega
  have hok' := stepB_ok h.ok hi hk hs'
  have hL := lds_of h.ok.ho h.ok.l
  obtain ⟨s, S, hsp, hS, hc⟩ := stepB_cases hs'
  have one : ∀ i' k', i' < k' → tri k' + i' < j + 1 → tri k' + i' < j ∨ (i' = i ∧ k' = k) := fun i' k' h1 h2 => by
    by_cases e : tri k' + i' = j
    · have := pq_tri k' i' h1
      rw [e, epq] at this
      cases this
      exact .inr ⟨rfl, rfl⟩
    · exact .inl (by omega)
  obtain ⟨U, V, eU, eV, u1, v1, um, vm, e, k1, hb⟩ := std_rep hL hi hk hsp
  obtain ⟨lo1, lo2⟩ := std_div hL hS k1 hb
  rcases hc with ⟨h0, rfl⟩ | ⟨h0, R, hR, rfl⟩
  · refine ⟨hok', h.le, h.pre, h.pf, fun i' k' h1 h2 h3 => ?_⟩
    rcases one i' k' h1 h3 with q | ⟨rfl, rfl⟩
    · exact h.pr i' k' h1 h2 q
    · exact pair_done hL hi hk hsp hS h0
  · have hok2 := hok'
    have hle := h.le
    refine ⟨hok', by show g ≤ B.m + 1; omega, fun i' hi' => (updL_lt (by omega)).trans (h.pre i' hi'), fun i' hi' => ?_, fun i' k' h1 h2 h3 => ?_⟩
    · show qsum regG g L0 (updP B.P B.m R i') = Rp regG (updL B.L B.m S.r i')
      by_cases ei : i' = B.m
      · subst ei
        rw [updP_eq, updL_eq]
        obtain ⟨⟨_, g2, g3⟩, _⟩ := spUV_good hsp
        rw [made_qsum hi hk h.ok.p g2 g3 (fun t _ => okL_of (by have := ((redAll_ok hS).1.q t).2; omega) ((redAll_ok hS).1.q t).1) h.pf B.m R (Nat.le_refl _) hR, left_Rp hS, e, eU, eV]
      · have hi2 : i' < B.m + 1 := hi'
        rw [updP_lt (by omega), updL_lt (by omega)]
        exact h.pf i' (by omega)
    · have grow : ∀ j, j < B.m → updL B.L B.m S.r j = B.L j := fun j hj => updL_lt hj
      have hk' : k' < B.m := by
        have h2' : k' < B.m + 1 := h2
        by_cases ek : k' = B.m
        · subst ek; omega
        · omega
      show Pair o (B.m + 1) (updL B.L B.m S.r) i' k'
      rcases one i' k' h1 h3 with q | ⟨rfl, rfl⟩
      · exact (h.pr i' k' h1 hk' q).grow (by omega) grow (by omega) hk'
      · have hL' := lds_of hok2.ho hok2.l
        have hL2 : Lds o (B.m + 1) (updL B.L B.m S.r) := hL'
        refine pair_std hL2 (by omega) (by omega) (s := s) (by rw [grow i' hi, grow k' hk]; exact hsp) ?_
        rw [lmL_same (grow i' hi), lmL_same (grow k' hk), ← redAll_all regG hS]
        refine (lo1.grow (by omega) grow).sum ?_
        have hmem : ldL o S.r ∈ S.r := ldL_mem h0
        have hr := (redAll_ok hS).1.r.1
        have := Lo.one (o := o) (n := B.m + 1) (L := updL B.L B.m S.r) (δ := M.lcm (lmL o B.L i') (lmL o B.L k')) 1 (m := ⟨0, 0, 0, 0⟩) (j := B.m) (by omega) ⟨by decide, by decide, by decide, by decide⟩ (by
          have e0 : M.sum ⟨0, 0, 0, 0⟩ (lmL o (updL B.L B.m S.r) B.m) = (ldL o S.r).m := by
            unfold lmL
            rw [updL_eq]
            unfold M.sum
            refine M.eta4 ?_ ?_ ?_ ?_ <;> (simp only; omega)
          rw [e0]
          exact rkW_klt hL.ho (hr.2 _ hmem).1 k1 (lo2 _ hmem))
        rw [Lq.sc_one, mo_zero, updL_eq] at this
        exact this
theorem grun_inv {o : Int} {g : Nat} {L0 : Nat → List T} : ∀ (f : Nat) (B : Bs) (j : Nat), Mk o g L0 B j → ∀ B' d, grun o g f B j = (B', d) → ∃ j', Mk o g L0 B' j' ∧ (d = true → tri B'.m ≤ j')
  | 0, B, j, h, B', d, e => by
    unfold grun at e
    cases e
    exact ⟨j, h, fun q => of_decide_eq_true q⟩
  | f + 1, B, j, h, B', d, e => by
    unfold grun at e
    split at e
    · rename_i hj
      split at e
      · cases e; exact ⟨j, h, fun q => by cases q⟩
      · rename_i B2 hs
        exact grun_inv f B2 (j + 1) (h.step hj hs) B' d e
    · cases e
      exact ⟨j, h, fun _ => by omega⟩
theorem sumN_one (f : Nat → Lq) (i : Nat) : ∀ n, i < n → (∀ j, j < n → j ≠ i → f j = Lq.nil) → Lq.sumN f n = f i
  | 0, h, _ => by omega
  | n + 1, h, h0 => by
    show Lq.sum (Lq.sumN f n) (f n) = f i
    by_cases e : i = n
    · subst e
      have : Lq.sumN f i = Lq.sumN (fun _ => Lq.nil) i := Lq.sumN_congr fun j hj => h0 j (by omega) (by omega)
      rw [this, sumN_nils, nil_sum]
    · rw [sumN_one f i n (by omega) (fun j hj => h0 j (by omega)), h0 n (by omega) (fun q => e q.symm), Lq.sum_nil]
theorem one_qsum {n : Nat} {L : Nat → List T} {i : Nat} (hi : i < n) : qsum regG n L (oneP i) = Rp regG (L i) := by
  unfold qsum
  rw [sumN_one _ i n hi (fun j hj hne => by
    unfold oneP
    rw [if_neg hne, Rp_nil, Lq.nil_mul])]
  unfold oneP
  rw [if_pos rfl, Rp_one, Lq.sc_mul, mo_zero]
  exact Lq.sc_one _
theorem Mk.start {o : Int} {n : Nat} {L : Nat → List T} (ho : 1 ≤ o ∧ o ≤ 3) (hl : lstOk n (lN L) (fN L) = true) : Mk o n L (grb0 n L) 0 :=
  ⟨grb0_ok ho hl, Nat.le_refl _, fun _ _ => rfl, fun i hi => one_qsum hi, fun i k _ _ h => by omega⟩
/-- what GrbMake makes. -/
theorem grbMake_mk {o : Int} {n : Nat} {L : Nat → List T} {fuel : Int} {B : Bs} {d : Bool} (h : grbMake o n L fuel = (B, d)) : (B.m = 0 ∧ d = false ∧ ¬ ((1 ≤ o ∧ o ≤ 3) ∧ lstOk n (lN L) (fN L) = true ∧ (1 ≤ n ∧ n ≤ 3) ∧ (0 ≤ fuel ∧ fuel ≤ 60))) ∨ (((1 ≤ o ∧ o ≤ 3) ∧ lstOk n (lN L) (fN L) = true ∧ (1 ≤ n ∧ n ≤ 3) ∧ (0 ≤ fuel ∧ fuel ≤ 60)) ∧ ∃ j, Mk o n L B j ∧ (d = true → tri B.m ≤ j)) := by
  unfold grbMake at h
  split at h
  · rename_i hc
    exact .inr ⟨hc, grun_inv fuel.toNat _ 0 (Mk.start hc.1 hc.2.1) B d h⟩
  · rename_i hc
    cases h
    exact .inl ⟨rfl, rfl, hc⟩
theorem tri_lt {k m i : Nat} (hk : k < m) (hi : i < k) : tri k + i < tri m := by
  have h1 : tri (k + 1) ≤ tri m := tri_mono hk
  have h2 : tri (k + 1) = tri k + k := rfl
  omega
theorem Mk.bas {o : Int} {g : Nat} {L0 : Nat → List T} {B : Bs} {j : Nat} (h : Mk o g L0 B j) (hj : tri B.m ≤ j) : Bas o B.m B.L := bas_of (lds_of h.ok.ho h.ok.l) fun i k hi hk => h.pr i k hi hk (by have := tri_lt hk hi; omega)
theorem Mk.proof {o : Int} {g : Nat} {L0 : Nat → List T} {B : Bs} {j : Nat} (h : Mk o g L0 B j) {i : Nat} (hi : i < B.m) {x : List T} (hx : redSum g (lN (B.P i)) (fN (B.P i)) g (lN L0) (fN L0) = (x, true)) : x = B.L i := by
  obtain ⟨e, ok⟩ := redSum_Rp regG hx
  rw [h.pf i hi] at e
  exact reg_one (okL_falls ok).2 ((lds_of h.ok.ho h.ok.l).falls hi) e
theorem Mk.idl {o : Int} {g : Nat} {L0 : Nat → List T} {B : Bs} {j : Nat} (h : Mk o g L0 B j) {i : Nat} (hi : i < B.m) : Idl g L0 (Rp regG (B.L i)) := by
  rw [← h.pf i hi]
  exact Idl.qsum fun t ht => (okL_falls (h.ok.p i hi t ht)).2
/-- with more pairs it goes on. -/
theorem stepB_pre {o : Int} {g : Nat} {B B' : Bs} {i k : Nat} (hs : stepB o g B i k = some B') : B.m ≤ B'.m ∧ (∀ j, j < B.m → B'.L j = B.L j) ∧ ∀ j, j < B.m → B'.P j = B.P j := by
  obtain ⟨s, S, _, _, ⟨_, rfl⟩ | ⟨_, R, _, rfl⟩⟩ := stepB_cases hs
  · exact ⟨Nat.le_refl _, fun _ _ => rfl, fun _ _ => rfl⟩
  · exact ⟨Nat.le_succ _, fun j hj => updL_lt hj, fun j hj => updP_lt hj⟩
theorem grun_pre {o : Int} {g : Nat} : ∀ (f : Nat) (B : Bs) (j : Nat), B.m ≤ (grun o g f B j).1.m ∧ ∀ i, i < B.m → (grun o g f B j).1.L i = B.L i
  | 0, B, j => ⟨Nat.le_refl _, fun _ _ => rfl⟩
  | f + 1, B, j => by
    unfold grun
    split
    · split
      · exact ⟨Nat.le_refl _, fun _ _ => rfl⟩
      · rename_i B2 hs
        obtain ⟨h1, h2, _⟩ := stepB_pre hs
        obtain ⟨h3, h4⟩ := grun_pre (o := o) (g := g) f B2 (j + 1)
        exact ⟨by omega, fun i hi => (h4 i (by omega)).trans (h2 i hi)⟩
    · exact ⟨Nat.le_refl _, fun _ _ => rfl⟩
theorem grun_done {o : Int} {g : Nat} : ∀ (f : Nat) (B : Bs) (j : Nat), (grun o g f B j).2 = true → grun o g (f + 1) B j = grun o g f B j
  | 0, B, j, h => by
    have h' : tri B.m ≤ j := of_decide_eq_true h
    unfold grun
    rw [if_neg (by omega)]
    show (B, true) = (B, decide (tri B.m ≤ j))
    rw [decide_eq_true h']
  | f + 1, B, j, h => by
    rw [grun]
    rw [grun] at h ⊢
    split
    · rename_i hj
      rw [if_pos hj] at h
      cases hs : stepB o g B (pq j).1 (pq j).2 with
      | none => rfl
      | some B2 =>
        rw [hs] at h
        exact grun_done f B2 (j + 1) h
    · rfl
theorem grun_next {o : Int} {g : Nat} : ∀ (f : Nat) (B : Bs) (j : Nat), (grun o g f B j).1.m ≤ (grun o g (f + 1) B j).1.m ∧ ∀ i, i < (grun o g f B j).1.m → (grun o g (f + 1) B j).1.L i = (grun o g f B j).1.L i
  | 0, B, j => grun_pre 1 B j
  | f + 1, B, j => by
    rw [grun, grun]
    split
    · cases hs : stepB o g B (pq j).1 (pq j).2 with
      | none => exact ⟨Nat.le_refl _, fun _ _ => rfl⟩
      | some B2 => exact grun_next f B2 (j + 1)
    · exact ⟨Nat.le_refl _, fun _ _ => rfl⟩
end Go.Proofs.YtdidlcjhodejjaaGreat
namespace Go.Proofs.YtdidlcjhodejjaaGreat
open Go.RowKit Go.Deep Go.Joins
set_option linter.unusedVariables false

abbrev S14 (u : World) (b : Nat) (p : Pr) (lb i k : Nat) (v1 v2 : Value) : Prop :=
  u.cell? ⟨b, 0, none⟩ = some (.int .i64 p.t1.c) ∧ u.cell? ⟨b, 1, none⟩ = some (.int .i64 p.t1.m.x) ∧ u.cell? ⟨b, 2, none⟩ = some (.int .i64 p.t1.m.y) ∧ u.cell? ⟨b, 3, none⟩ = some (.int .i64 p.t1.m.d) ∧ u.cell? ⟨b, 4, none⟩ = some (.int .i64 p.t1.m.e) ∧ u.cell? ⟨b, 5, none⟩ = some (.int .i64 p.t2.c) ∧ u.cell? ⟨b, 6, none⟩ = some (.int .i64 p.t2.m.x) ∧ u.cell? ⟨b, 7, none⟩ = some (.int .i64 p.t2.m.y) ∧ u.cell? ⟨b, 8, none⟩ = some (.int .i64 p.t2.m.d) ∧ u.cell? ⟨b, 9, none⟩ = some (.int .i64 p.t2.m.e) ∧ u.cell? ⟨b, 10, none⟩ = some (.int .i64 (p.i : Int)) ∧ u.cell? ⟨b, 11, none⟩ = some (.int .i64 (p.k : Int)) ∧ u.cell? ⟨lb, i, none⟩ = some v1 ∧ u.cell? ⟨lb, k, none⟩ = some v2
theorem S14.mk {u : World} {b : Nat} {p : Pr} {nx : Option Addr} {lb i k : Nat} {v1 v2 : Value} (h : PrAt u b p nx) (h1 : u.cell? ⟨lb, i, none⟩ = some v1) (h2 : u.cell? ⟨lb, k, none⟩ = some v2) : S14 u b p lb i k v1 v2 := ⟨h.a0, h.a1, h.a2, h.a3, h.a4, h.b0, h.b1, h.b2, h.b3, h.b4, h.ci, h.ck, h1, h2⟩
theorem S14.below {u u' : World} {b : Nat} {p : Pr} {lb i k : Nat} {v1 v2 : Value} (h : S14 u b p lb i k v1 v2) (hb : Below u.heap.size u u') : S14 u' b p lb i k v1 v2 := by
  obtain ⟨a0, a1, a2, a3, a4, c0, c1, c2, c3, c4, d0, d1, e0, e1⟩ := h
  have l1 := World.block_lt_of_cell? u _ a0
  have l2 := World.block_lt_of_cell? u _ e0
  exact ⟨(hb.cell (p := ⟨b, 0, none⟩) l1).trans a0, (hb.cell (p := ⟨b, 1, none⟩) l1).trans a1, (hb.cell (p := ⟨b, 2, none⟩) l1).trans a2, (hb.cell (p := ⟨b, 3, none⟩) l1).trans a3, (hb.cell (p := ⟨b, 4, none⟩) l1).trans a4, (hb.cell (p := ⟨b, 5, none⟩) l1).trans c0, (hb.cell (p := ⟨b, 6, none⟩) l1).trans c1, (hb.cell (p := ⟨b, 7, none⟩) l1).trans c2, (hb.cell (p := ⟨b, 8, none⟩) l1).trans c3, (hb.cell (p := ⟨b, 9, none⟩) l1).trans c4, (hb.cell (p := ⟨b, 10, none⟩) l1).trans d0, (hb.cell (p := ⟨b, 11, none⟩) l1).trans d1, (hb.cell (p := ⟨lb, i, none⟩) l2).trans e0, (hb.cell (p := ⟨lb, k, none⟩) l2).trans e1⟩
/-- what comes out of a pair. -/
def DvdP (w : World) (n : Nat) (R : Option Dv) (r : Ending) (w' : World) : Prop :=
  Below w.heap.size w w' ∧ ((∃ S qa qc ad cp Rb B la lc mid lo, R = some S ∧ r = .returned (.tuple #[.slice qa n qc, .slice la S.r.length lc]) ∧ w.heap.size ≤ lo ∧ OutS lo w' qa n qc ad (fun i => (S.q i).length) cp (fun i => lf (S.q i)) Rb B ∧ Out mid w' la lc S.r ∧ (n = 0 ∨ Rb < mid) ∧ (∀ i, i < n → (S.q i).length ≠ 0 → B i < mid) ∧ lo ≤ mid) ∨ (R = none ∧ r = .panicked [{ v := tooMuch, recovered := false }]))
def dvdR (o : Int) (n : Nat) (L : Nat → List T) (p : Pr) : Option Dv :=
  match diffV p.t1 p.t2 (lf (L p.i)) (L p.i).length (lf (L p.k)) (L p.k).length with
  | (s, true) => redAll o s n (lN L) (fN L)
  | (_, false) => none
set_option maxRecDepth 100000 in
set_option maxHeartbeats 8000000 in
theorem dividedI (w : World) (b : Nat) (p : Pr) (nx : Option Addr) (hp : PrAt w b p nx) (o : Int) (a : Option Addr) (n cap : Nat) (ad : Nat → Option Addr) (cp : Nat → Nat) (L : Nat → List T) (h : RdS w a n cap ad (lN L) cp (fN L)) (hi : p.i < n) (hk : p.k < n) {R : Option Dv} (hR : dvdR o n L p = R) :
    Calls Tryz.prog 81 #[.pointer (some ⟨b, 0, none⟩), .int .i64 o, .slice a n cap] w (DvdP w n R) := by
  have q1 : (n : Int) ≤ 140737488351232 := by have := h.2.1; omega
  have i1 : (0 : Int) ≤ (p.i : Int) := by omega
  have i2 : (p.i : Int) < (n : Int) := by omega
  have k1 : (0 : Int) ≤ (p.k : Int) := by omega
  have k2 : (p.k : Int) < (n : Int) := by omega
  have dr : Below w.heap.size w w.drew := (Below.refl _ _).drew
  rcases h.2.2.1 with h0 | ⟨lb, off, rfl, hblt, hcl⟩
  · omega
  obtain ⟨A, hA⟩ : ∃ A, L p.i = A := ⟨_, rfl⟩
  obtain ⟨C, hC⟩ : ∃ A, L p.k = A := ⟨_, rfl⟩
  have RA : Hid (RL w.drew (ad p.i) (cp p.i) A) := by rw [← hA]; exact (h.2.2.2 p.i hi).below dr
  have RC : Hid (RL w.drew (ad p.k) (cp p.k) C) := by rw [← hC]; exact (h.2.2.2 p.k hk).below dr
  have hS0 : S14 w.drew b p lb (off + p.i) (off + p.k) (.slice (ad p.i) A.length (cp p.i)) (.slice (ad p.k) C.length (cp p.k)) := S14.mk (hp.below dr) ((dr.cell (p := ⟨lb, off + p.i, none⟩) hblt).trans (by rw [← hA]; exact hcl p.i hi)) ((dr.cell (p := ⟨lb, off + p.k, none⟩) hblt).trans (by rw [← hC]; exact hcl p.k hk))
  have HS := Hid.mk' hS0
  have HH := Hid.mk' (h.below dr)
  have HB0 := Hid.mk' dr
  obtain ⟨s, sb, hsp⟩ : ∃ s sb, diffV p.t1 p.t2 (lf A) A.length (lf C) C.length = (s, sb) := ⟨_, _, rfl⟩
  have hc := diffI w.drew p.t1 p.t2 (ad p.i) (ad p.k) A.length (cp p.i) C.length (cp p.k) (lf A) (lf C) RA.out RC.out
  rw [hsp] at hc
  have HC := Hid.mk' hc
  have hRR : (match ((s, sb) : List T × Bool) with | (s, true) => redAll o s n (lN L) (fN L) | (_, false) => none) = R := by
    rw [← hR]; unfold dvdR; rw [hA, hC, hsp]
  have HRR := Hid.mk' hRR
  have hlbw : lb < w.heap.size := hblt
  have hbw : b < w.heap.size := hp.lt
  clear hp h hcl hS0 hc hsp hR hRR hA hC dr hblt
  cases sb
  · have hRn : R = none := HRR.out.symm
    subst hRn
    go_enter Tryz.func81, Tryz.ntmps81
    go_wp2_with fail
    have hS := HS.out
    refine wp_region_held_drew (S := (fun u => S14 u b p lb (off + p.i) (off + p.k) (.slice (ad p.i) A.length (cp p.i)) (.slice (ad p.k) C.length (cp p.k)))) (by kernel_rfl) hS (fun hHeld => ?_)
    clear hS
    refine wpAnyH_take (i := 0) (v := ?_) rfl (by kernel_rfl) (by kernel_rfl) (by kernel_rfl) (fun _ _ _ h => h) (Or.inl ⟨by rfl, ?_⟩) (by assumption) ?_
    rotate_left
    · (intro w9 hSw; (try dsimp only at hSw); go_simp) <;> with_reducible rfl
    refine wpAnyH_take (i := 1) (v := ?_) rfl (by kernel_rfl) (by kernel_rfl) (by kernel_rfl) (fun _ _ _ h => h) (Or.inl ⟨by rfl, ?_⟩) (by assumption) ?_
    rotate_left
    · (intro w9 hSw; (try dsimp only at hSw); go_simp) <;> with_reducible rfl
    refine wpAnyH_take (i := 2) (v := ?_) rfl (by kernel_rfl) (by kernel_rfl) (by kernel_rfl) (fun _ _ _ h => h) (Or.inl ⟨by rfl, ?_⟩) (by assumption) ?_
    rotate_left
    · (intro w9 hSw; (try dsimp only at hSw); go_simp) <;> with_reducible rfl
    refine wpAnyH_take (i := 3) (v := ?_) rfl (by kernel_rfl) (by kernel_rfl) (by kernel_rfl) (fun _ _ _ h => h) (Or.inl ⟨by rfl, ?_⟩) (by assumption) ?_
    rotate_left
    · (intro w9 hSw; (try dsimp only at hSw); go_simp) <;> with_reducible rfl
    refine wpAnyH_take (i := 4) (v := ?_) rfl (by kernel_rfl) (by kernel_rfl) (by kernel_rfl) (fun _ _ _ h => h) (Or.inl ⟨by rfl, ?_⟩) (by assumption) ?_
    rotate_left
    · (intro w9 hSw; (try dsimp only at hSw); go_simp) <;> with_reducible rfl
    refine wpAnyH_take (i := 5) (v := ?_) rfl (by kernel_rfl) (by kernel_rfl) (by kernel_rfl) (fun _ _ _ h => h) (Or.inl ⟨by rfl, ?_⟩) (by assumption) ?_
    rotate_left
    · (intro w9 hSw; (try dsimp only at hSw); go_simp) <;> with_reducible rfl
    refine wpAnyH_take (i := 6) (v := ?_) rfl (by kernel_rfl) (by kernel_rfl) (by kernel_rfl) (fun _ _ _ h => h) (Or.inl ⟨by rfl, ?_⟩) (by assumption) ?_
    rotate_left
    · (intro w9 hSw; (try dsimp only at hSw); go_simp) <;> with_reducible rfl
    refine wpAnyH_take (i := 7) (v := ?_) rfl (by kernel_rfl) (by kernel_rfl) (by kernel_rfl) (fun _ _ _ h => h) (Or.inl ⟨by rfl, ?_⟩) (by assumption) ?_
    rotate_left
    · (intro w9 hSw; (try dsimp only at hSw); go_simp) <;> with_reducible rfl
    refine wpAnyH_take (i := 8) (v := ?_) rfl (by kernel_rfl) (by kernel_rfl) (by kernel_rfl) (fun _ _ _ h => h) (Or.inl ⟨by rfl, ?_⟩) (by assumption) ?_
    rotate_left
    · (intro w9 hSw; (try dsimp only at hSw); go_simp) <;> with_reducible rfl
    refine wpAnyH_take (i := 9) (v := ?_) rfl (by kernel_rfl) (by kernel_rfl) (by kernel_rfl) (fun _ _ _ h => h) (Or.inl ⟨by rfl, ?_⟩) (by assumption) ?_
    rotate_left
    · (intro w9 hSw; (try dsimp only at hSw); go_simp) <;> with_reducible rfl
    refine wpAnyH_take (i := 10) (v := ?_) rfl (by kernel_rfl) (by kernel_rfl) (by kernel_rfl) (fun _ _ _ h => h) (Or.inl ⟨by rfl, ?_⟩) (by assumption) ?_
    rotate_left
    · (intro w9 hSw; (try dsimp only at hSw); go_simp) <;> with_reducible rfl
    refine wpAnyH_take (i := 11) (v := ?_) rfl (by kernel_rfl) (by kernel_rfl) (by kernel_rfl) (fun _ _ _ h => h) (Or.inl ⟨by rfl, ?_⟩) (by assumption) ?_
    rotate_left
    · (intro w9 hSw; (try dsimp only at hSw); go_simp) <;> with_reducible rfl
    refine wpAnyH_take (i := 12) (v := ?_) rfl (by kernel_rfl) (by kernel_rfl) (by kernel_rfl) (fun _ _ _ h => h) (Or.inl ⟨by rfl, ?_⟩) (by assumption) ?_
    rotate_left
    · (intro w9 hSw; (try dsimp only at hSw); go_simp) <;> with_reducible rfl
    refine wpAnyH_take (i := 13) (v := ?_) rfl (by kernel_rfl) (by kernel_rfl) (by kernel_rfl) (fun _ _ _ h => h) (Or.inl ⟨by rfl, ?_⟩) (by assumption) ?_
    rotate_left
    · (intro w9 hSw; (try dsimp only at hSw); go_simp) <;> with_reducible rfl
    refine wpAnyH_take (i := 14) (v := ?_) rfl (by kernel_rfl) (by kernel_rfl) (by kernel_rfl) (fun _ _ _ h => h) (Or.inl ⟨by rfl, ?_⟩) (by assumption) ?_
    rotate_left
    · (intro w9 hSw; (try dsimp only at hSw); go_simp) <;> with_reducible rfl
    refine wpAnyH_take (i := 15) (v := ?_) rfl (by kernel_rfl) (by kernel_rfl) (by kernel_rfl) (fun _ _ _ h => h) (Or.inl ⟨by rfl, ?_⟩) (by assumption) ?_
    rotate_left
    · (intro w9 hSw; (try dsimp only at hSw); go_simp) <;> with_reducible rfl
    refine wpAnyH_take (i := 16) (v := ?_) rfl (by kernel_rfl) (by kernel_rfl) (by kernel_rfl) (fun _ _ _ h => h) (Or.inl ⟨by rfl, ?_⟩) (by assumption) ?_
    rotate_left
    · (intro w9 hSw; (try dsimp only at hSw); go_simp) <;> with_reducible rfl
    refine wpAnyH_take (i := 17) (v := ?_) rfl (by kernel_rfl) (by kernel_rfl) (by kernel_rfl) (fun _ _ _ h => h) (Or.inl ⟨by rfl, ?_⟩) (by assumption) ?_
    rotate_left
    · (intro w9 hSw; (try dsimp only at hSw); go_simp) <;> with_reducible rfl
    refine wpAnyH_ready (rs := [18]) (by kernel_rfl) (by simp) ?_
    refine AllReadyH.cons rfl (fun K hK => ?_) AllReadyH.nil
    go_simp
    go_wp2_with (go_at_call 125; refine HC.out.mono ?_; rintro e w5 ⟨za, zc, rfl, b5, hz⟩)
    refine hK.out _ _ ?_ (fun hHeld2 => ?_)
    · exact S14.below hHeld b5
    clear hK K
    refine wpAnyH_take (i := 19) (v := ?_) rfl (by kernel_rfl) (by kernel_rfl) (by kernel_rfl) (fun _ _ _ h => h) (Or.inl ⟨by rfl, ?_⟩) (by assumption) ?_
    rotate_left
    · (intro w9 hSw; (try dsimp only at hSw); go_simp) <;> with_reducible rfl
    refine wpAnyH_take (i := 20) (v := ?_) rfl (by kernel_rfl) (by kernel_rfl) (by kernel_rfl) (fun _ _ _ h => h) (Or.inl ⟨by rfl, ?_⟩) (by assumption) ?_
    rotate_left
    · (intro w9 hSw; (try dsimp only at hSw); go_simp) <;> with_reducible rfl
    refine wpAnyH_ready (rs := [21]) (by kernel_rfl) (by simp) ?_
    refine AllReadyH.cons rfl (fun K hK => ?_) AllReadyH.nil
    go_simp
    go_wp2_with (go_at_call 124; refine (redNeed_no _ _).mono ?_; rintro e wn ⟨rfl, hwn⟩; obtain rfl := hwn.symm; clear hwn)
    exact ⟨rfl, bel_next HB0.out b5, .inr ⟨rfl, rfl⟩⟩
  · have hRs : redAll o s n (lN L) (fN L) = R := HRR.out
    have HR := Hid.mk' hRs
    clear hRs HRR
    go_enter Tryz.func81, Tryz.ntmps81
    go_wp2_with fail
    have hS := HS.out
    go_region_held3 (fun u => S14 u b p lb (off + p.i) (off + p.k) (.slice (ad p.i) A.length (cp p.i)) (.slice (ad p.k) C.length (cp p.k))) (first | with_reducible exact hS | with_reducible exact S14.below hS b5) (first | (go_at_call 125; refine HC.out.mono ?_; rintro e w5 ⟨za, zc, rfl, b5, hz⟩) | (go_at_call 124; refine (redNeed_yes _ _).mono ?_; rintro e wn ⟨rfl, hwn⟩; obtain rfl := hwn.symm; clear hwn))
    have HB5 := Hid.mk' (bel_next HB0.out b5)
    have HZ5 : Hid (RL w5 za zc s) := hz.1
    have HH5 := Hid.mk' (HH.out.below b5)
    have hs5 : w.heap.size ≤ w5.heap.size := HB5.out.size
    clear hS b5 hz HC RA RC HS HH
    go_wp2_with fail
    refine (redAllI' w5 o za zc s _ n cap ad (lN L) cp (fN L) HZ5.out HH5.out HR.out).mono ?_
    rintro e w6 ⟨qa, qc, ad6, cp6, Rb, B6, la, lc, mid, rfl, b6, o1, o2, m1, m2, m3⟩
    have HB6 := Hid.mk' (bel_next HB5.out b6)
    clear b6
    cases R with
    | none =>
      clear o1 o2 m1 m2 m3
      go_wp2_with fail
      refine (redNeed_no _ _).mono ?_
      rintro e wn ⟨rfl, hwn⟩
      obtain rfl := hwn.symm
      clear hwn
      exact ⟨rfl, HB6.out, .inr ⟨rfl, rfl⟩⟩
    | some S =>
      have HO1 := Hid.mk' o1
      have HO2 := Hid.mk' o2
      have HM := Hid.mk' (And.intro m1 (And.intro m2 m3))
      clear o1 o2 m1 m2 m3
      have e1 : resN n (some S) = n := rfl
      have e2 : resL (some S) = S.r := rfl
      rw [e1, e2]
      clear e1 e2
      go_wp2_with fail
      refine (redNeed_yes _ _).mono ?_
      rintro e wn ⟨rfl, hwn⟩
      obtain rfl := hwn.symm
      clear hwn
      go_wp2
      refine bodyPost_ret (results_tmp2 rfl _ _ _) rfl ?_
      exact ⟨HB6.out, .inl ⟨S, qa, qc, ad6, cp6, Rb, B6, la, lc, mid, w5.heap.size, rfl, rfl, hs5, HO1.out, HO2.out, HM.out.1, HM.out.2.1, HM.out.2.2⟩⟩
end Go.Proofs.YtdidlcjhodejjaaGreat
namespace Go.Proofs.YtdidlcjhodejjaaGreat
open Go.RowKit Go.Deep Go.Joins
set_option linter.unusedVariables false

/-- the first that is not 2; 2, if there is none. -/
def scn (F : Nat → Nat) : Nat → Nat
  | 0 => 2
  | m + 1 => if scn F m = 2 then F m else scn F m
theorem scn_stay {F : Nat → Nat} {j : Nat} (h : scn F j ≠ 2) : ∀ e, j ≤ e → scn F e = scn F j
  | 0, hj => by obtain rfl : j = 0 := by omega
                rfl
  | e + 1, hj => by
    rcases Nat.lt_or_ge j (e + 1) with h' | h'
    · have := scn_stay h e (by omega)
      show (if scn F e = 2 then F e else scn F e) = _
      rw [this, if_neg h]
    · obtain rfl : j = e + 1 := by omega
      rfl
theorem scn_all {F : Nat → Nat} : ∀ {e : Nat}, scn F e = 2 ↔ ∀ j, j < e → F j = 2
  | 0 => ⟨fun _ j hj => by omega, fun _ => rfl⟩
  | e + 1 => by
    show (if scn F e = 2 then F e else scn F e) = 2 ↔ _
    constructor
    · intro h j hj
      split at h
      · rename_i h2
        by_cases e1 : j = e
        · rw [e1]; exact h
        · exact scn_all.1 h2 j (by omega)
      · exact absurd h (by assumption)
    · intro h
      rw [if_pos (scn_all.2 (fun j hj => h j (by omega)))]
      exact h e (by omega)
def prF (o : Int) (n : Nat) (L : Nat → List T) (j : Nat) : Nat := prK o n L (pq j).1 (pq j).2
theorem prK_le (o : Int) (n : Nat) (L : Nat → List T) (i k : Nat) : prK o n L i k ≤ 2 := by
  unfold prK
  split
  · split
    · split <;> omega
    · omega
  · omega
theorem scn_le (o : Int) (n : Nat) (L : Nat → List T) : ∀ e, scn (prF o n L) e ≤ 2
  | 0 => Nat.le_refl _
  | e + 1 => by
    show (if scn (prF o n L) e = 2 then prF o n L e else scn (prF o n L) e) ≤ 2
    split
    · exact prK_le _ _ _ _ _
    · exact scn_le o n L e
theorem grbOk_scn {o : Int} {n : Nat} {L : Nat → List T} (ho : 1 ≤ o ∧ o ≤ 3) (hl : lstOk n (lN L) (fN L) = true) : grbOk o n L = decide (scn (prF o n L) (tri n) = 2) := by
  unfold grbOk
  refine decide_eq_decide.2 ⟨fun h => scn_all.2 (fun j hj => ?_), fun h => ⟨ho, hl, fun k hk i hi => ?_⟩⟩
  · obtain ⟨h1, h2⟩ := pq_lt hj
    exact h.2.2 _ h2 _ h1
  · have := scn_all.1 h (tri k + i) (by have := tri_mono (show k + 1 ≤ n by omega); show tri k + i < tri n; have h' : tri (k + 1) = tri k + k := rfl; omega)
    unfold prF at this
    rwa [pq_tri k i hi] at this
theorem lead_yes {o : Int} {A : List T} (ho : 1 ≤ o ∧ o ≤ 3) (hA : okL A = true) (h0 : A.length ≠ 0) : leadOk o A.length (lf A) = true ∧ leadT o A.length (lf A) = ldL o A := by
  have h : leadOk o A.length (lf A) = true := ldB_iff.2 ⟨ho, hA, fun e => h0 (by rw [e]; rfl)⟩
  exact ⟨h, leadT_yes h⟩
theorem dvd_is {o : Int} {n : Nat} {L : Nat → List T} (ho : 1 ≤ o ∧ o ≤ 3) (hl : lstOk n (lN L) (fN L) = true) {kf : Nat → T} (hk : ∀ i, i < n → kf i = ldL o (L i)) {j : Nat} (hj : j < tri n) : prF o n L j = match dvdR o n L (prQ kf j) with
    | some S => if S.r.length = 0 then 2 else 1
    | none => 0 := by
  obtain ⟨h1, h2⟩ := pq_lt hj
  have a1 := (lstOk_all hl).2 (pq j).1 (by omega)
  have a2 := (lstOk_all hl).2 (pq j).2 h2
  obtain ⟨k1, e1⟩ := lead_yes (o := o) (A := L (pq j).1) ho a1.2 a1.1
  obtain ⟨k2, e2⟩ := lead_yes (o := o) (A := L (pq j).2) ho a2.2 a2.1
  have hs : sprOk o (L (pq j).1).length (lf (L (pq j).1)) (L (pq j).2).length (lf (L (pq j).2)) = true := by unfold sprOk; rw [k1, k2]; rfl
  have e : sprPoly o (lf (L (pq j).1)) (L (pq j).1).length (lf (L (pq j).2)) (L (pq j).2).length = diffV (prQ kf j).t1 (prQ kf j).t2 (lf (L (pq j).1)) (L (pq j).1).length (lf (L (pq j).2)) (L (pq j).2).length := by
    unfold sprPoly
    rw [if_pos hs]
    unfold sprU sprV sprB prQ
    rw [if_pos hs, if_pos hs, e1, e2]
    simp only
    rw [hk _ (by omega), hk _ h2]
  unfold prF prK dvdR
  show (match sprPoly o (lf (L (pq j).1)) (L (pq j).1).length (lf (L (pq j).2)) (L (pq j).2).length with
    | (s, true) => (match redAll o s n (lN L) (fN L) with | some S => if S.r.length = 0 then 2 else 1 | none => 0)
    | (_, false) => 0) = match (match diffV (prQ kf j).t1 (prQ kf j).t2 (lf (L (pq j).1)) (L (pq j).1).length (lf (L (pq j).2)) (L (pq j).2).length with | (s, true) => redAll o s n (lN L) (fN L) | (_, false) => none) with | some S => if S.r.length = 0 then 2 else 1 | none => 0
  rw [e]
  generalize diffV (prQ kf j).t1 (prQ kf j).t2 (lf (L (pq j).1)) (L (pq j).1).length (lf (L (pq j).2)) (L (pq j).2).length = X
  obtain ⟨s, b⟩ := X
  cases b <;> rfl
theorem dvd_some {o : Int} {n : Nat} {L : Nat → List T} (ho : 1 ≤ o ∧ o ≤ 3) (hl : lstOk n (lN L) (fN L) = true) {kf : Nat → T} (hk : ∀ i, i < n → kf i = ldL o (L i)) {j : Nat} (hj : j < tri n) {S : Dv} (h : dvdR o n L (prQ kf j) = some S) : prF o n L j = if S.r.length = 0 then 2 else 1 := by rw [dvd_is ho hl hk hj, h]
theorem dvd_none {o : Int} {n : Nat} {L : Nat → List T} (ho : 1 ≤ o ∧ o ≤ 3) (hl : lstOk n (lN L) (fN L) = true) {kf : Nat → T} (hk : ∀ i, i < n → kf i = ldL o (L i)) {j : Nat} (hj : j < tri n) (h : dvdR o n L (prQ kf j) = none) : prF o n L j = 0 := by rw [dvd_is ho hl hk hj, h]
/-- how the looking ends. -/
def ClP (w : World) (Q NL v : Nat) (r : Ending) (w' : World) : Prop :=
  Fr (fun k => k = Q ∨ k = NL) w w' ∧ ((v = 2 ∧ r = .returned (.tuple #[]) ∧ w'.cell? ⟨NL, 0, none⟩ = some (.bool true)) ∨ (v = 1 ∧ r = .returned (.tuple #[]) ∧ w'.cell? ⟨NL, 0, none⟩ = some (.bool false)) ∨ (v = 0 ∧ r = .panicked [{ v := tooMuch, recovered := false }]))
set_option maxRecDepth 100000 in
set_option maxHeartbeats 8000000 in
theorem grbOk1I (w : World) (lo Q NL OB LB : Nat) (lv : Value) (n : Nat) (kf : Nat → T) (B : Nat → Nat) (hQ : Que w lo Q 0 lv n kf B 0 (tri n)) (hN : w.cell? ⟨NL, 0, none⟩ = some (.bool true)) (hNz : w.frozen? ⟨NL, 0, none⟩ = false) (o : Int) (hO : w.cell? ⟨OB, 0, none⟩ = some (.int .i64 o)) (a : Option Addr) (cap : Nat) (ad : Nat → Option Addr) (cp : Nat → Nat) (L : Nat → List T) (hL : w.cell? ⟨LB, 0, none⟩ = some (.slice a n cap)) (h : RdS w a n cap ad (lN L) cp (fN L))
    (ho : 1 ≤ o ∧ o ≤ 3) (hl : lstOk n (lN L) (fN L) = true) (hk : ∀ i, i < n → kf i = ldL o (L i))
    (n1 : NL ≠ Q) (n2 : ∀ j, j < tri n → B j ≠ NL) (n3 : ∀ g, lv.ownBlock = some g → g ≠ NL) (n4 : OB ≠ Q ∧ OB ≠ NL) (n5 : LB ≠ Q ∧ LB ≠ NL) (n6 : n ≠ 0 → ∀ b off, a = some ⟨b, off, none⟩ → b ≠ Q ∧ b ≠ NL) (n7 : ∀ i, i < n → (L i).length ≠ 0 → ∀ b off, ad i = some ⟨b, off, none⟩ → b ≠ Q ∧ b ≠ NL) :
    Calls Tryz.prog 79 #[.pointer (some ⟨Q, 0, none⟩), .pointer (some ⟨NL, 0, none⟩), .pointer (some ⟨OB, 0, none⟩), .pointer (some ⟨LB, 0, none⟩)] w (ClP w Q NL (scn (prF o n L) (tri n))) := by
  obtain ⟨v, hv⟩ : ∃ v, scn (prF o n L) (tri n) = v := ⟨_, rfl⟩
  rw [hv]
  have HV := Hid.mk' hv
  have HQ0 := Hid.mk' hQ
  have HK := Hid.mk' hk
  have HL := Hid.mk' hl
  have HN2 := Hid.mk' n2
  have HN3 := Hid.mk' n3
  -- what is kept of the list, in a world where only Q and NL have turned
  have keep : ∀ u : World, Fr (fun k => k = Q ∨ k = NL) w u → u.cell? ⟨OB, 0, none⟩ = some (.int .i64 o) ∧ u.cell? ⟨LB, 0, none⟩ = some (.slice a n cap) ∧ RdS u a n cap ad (lN L) cp (fN L) := fun u hf => by
    refine ⟨(hf.cell (World.block_lt_of_cell? w _ hO) (fun q => by rcases q with q | q; exact n4.1 q; exact n4.2 q)).trans hO, (hf.cell (World.block_lt_of_cell? w _ hL) (fun q => by rcases q with q | q; exact n5.1 q; exact n5.2 q)).trans hL, h.1, h.2.1, ?_, fun i hi => ?_⟩
    · rcases h.2.2.1 with h0 | ⟨b, off, e, hlt, hc⟩
      · exact .inl h0
      · by_cases hn0 : n = 0
        · exact .inl hn0
        · exact .inr ⟨b, off, e, Nat.lt_of_lt_of_le hlt hf.size, fun i hi => (hf.cell hlt (fun q => by have := n6 hn0 b off e; rcases q with q | q; exact this.1 q; exact this.2 q)).trans (hc i hi)⟩
    · refine hf.rd (h.2.2.2 i hi) ?_
      by_cases h0 : (L i).length = 0
      · exact .inl h0
      · exact .inr fun b off e q => by have := n7 i hi h0 b off e; rcases q with q | q; exact this.1 q; exact this.2 q
  have KEEP := Hid.mk' keep
  have hNlt : NL < w.heap.size := World.block_lt_of_cell? w _ hN
  have HN := Hid.mk' hN
  have HNZ := Hid.mk' hNz
  clear hQ hk hl n2 n3 keep hv h hN hNz hO hL
  -- the first pop, and each that follows
  have pop : ∀ (u : World) (j : Nat), j ≤ tri n → Que u lo Q 0 lv n kf B j (tri n) → Calls Tryz.prog 80 #[.pointer (some ⟨Q, 0, none⟩)] u fun r u' => ∃ p, r = .returned (.pointer p) ∧ Fr (fun k => k = Q) u u' ∧ ((j < tri n ∧ p = some ⟨B j, 0, none⟩ ∧ Que u' lo Q 0 lv n kf B (j + 1) (tri n) ∧ PrAt u' (B j) (prQ kf j) (qF B (j + 1) (tri n))) ∨ (j = tri n ∧ p = none ∧ Que u' lo Q 0 lv n kf B j (tri n))) := fun u j hj hq => by
    by_cases hlt : j < tri n
    · refine (popI u lo Q 0 lv n kf B j (tri n) hq hlt).mono ?_
      rintro r u' ⟨rfl, h1, h2, h3⟩
      exact ⟨_, rfl, h3, .inl ⟨hlt, rfl, h1, h2⟩⟩
    · refine (popI_none u lo Q 0 lv n kf B j (tri n) hq hlt).mono ?_
      rintro r u' ⟨rfl, rfl⟩
      exact ⟨_, rfl, Fr.refl _ _, .inr ⟨by omega, rfl, hq⟩⟩
  have POP := Hid.mk' pop
  clear pop
  go_enter Tryz.func79, Tryz.ntmps79
  go_wp2_with fail
  refine (POP.out w 0 (Nat.zero_le _) HQ0.out).mono ?_
  rintro r w1 ⟨p1, rfl, f1, hh1⟩
  have HF1 : Hid (Fr (fun k => k = Q ∨ k = NL) w w1) := f1.mono (fun k _ q => .inl q)
  have HNw1 : Hid (w1.cell? ⟨NL, 0, none⟩ = some (.bool true)) := (f1.cell hNlt n1).trans HN.out
  have HZ1 : Hid (w1.frozen? ⟨NL, 0, none⟩ = false) := (f1.frozen hNlt n1).trans HNZ.out
  have HH1 := Hid.mk' hh1
  clear f1 hh1
  go_wp2
  go_loopg [4] (tri n) (fun gk pv wr => ∃ (j : Nat) (p : Option Addr) (c : Bool), j + gk = tri n ∧ pv = .pointer p ∧ Fr (fun k => k = Q ∨ k = NL) w wr ∧ wr.cell? ⟨NL, 0, none⟩ = some (.bool c) ∧ wr.frozen? ⟨NL, 0, none⟩ = false ∧ scn (prF o n L) j = (if c = true then 2 else 1) ∧ ((j < tri n ∧ p = some ⟨B j, 0, none⟩ ∧ Que wr lo Q 0 lv n kf B (j + 1) (tri n) ∧ PrAt wr (B j) (prQ kf j) (qF B (j + 1) (tri n))) ∨ (j = tri n ∧ p = none ∧ Que wr lo Q 0 lv n kf B j (tri n))))
  case atStart => exact ⟨0, p1, true, by omega, rfl, HF1.out, HNw1.out, HZ1.out, rfl, HH1.out⟩
  case round =>
    obtain ⟨j, p, c, hg, rfl, hF, hNc, hZc, hsc, hcase⟩ := hrel
    have HF := Hid.mk' hF
    have HSC := Hid.mk' hsc
    clear hsc
    cases c
    · -- something was left
      have hv1 : v = 1 := by
        have h1 : scn (prF o n L) j = 1 := HSC.out
        rw [← HV.out, scn_stay (by rw [h1]; omega) (tri n) (by omega), h1]
      have HNC := Hid.mk' hNc
      rcases hcase with ⟨hlt, rfl, hq, hp⟩ | ⟨rfl, rfl, hq⟩
      · clear hq hp hF
        go_wp2
        go_end0
        exact ⟨HF.out, .inr (.inl ⟨(by first | exact hv1 | rfl), rfl, HNC.out⟩)⟩
      · clear hq hF
        go_wp2
        go_end0
        exact ⟨HF.out, .inr (.inl ⟨(by first | exact hv1 | rfl), rfl, HNC.out⟩)⟩
    · rcases hcase with ⟨hlt, rfl, hq, hp⟩ | ⟨rfl, rfl, hq⟩
      · obtain ⟨hO, hL, hR⟩ := KEEP.out wr hF
        obtain ⟨h1, h2⟩ := pq_lt hlt
        obtain ⟨R, hRR⟩ : ∃ R, dvdR o n L (prQ kf j) = R := ⟨_, rfl⟩
        have HC := Hid.mk' (dividedI wr (B j) (prQ kf j) _ hp o a n cap ad cp L hR (show (pq j).1 < n by omega) (show (pq j).2 < n from h2) hRR)
        have HRR := Hid.mk' hRR
        have HQ := Hid.mk' hq
        have HNC := Hid.mk' hNc
        have HZC := Hid.mk' hZc
        clear hq hp hR hRR hF hZc
        go_wp2_with fail
        refine HC.out.mono ?_
        rintro r w3 ⟨b3, hh⟩
        have HB3 := Hid.mk' b3
        rcases hh with ⟨S, qa, qc, ad3, cp3, Rb, B3, la, lc, mid, lo3, rfl, rfl, _⟩ | ⟨rfl, rfl⟩
        · have hpk := dvd_some ho HL.out HK.out hlt HRR.out
          have hN3 : w3.cell? ⟨NL, 0, none⟩ = some (.bool true) := (b3.cell (p := ⟨NL, 0, none⟩) (World.block_lt_of_cell? wr _ hNc)).trans hNc
          have hZ3 : w3.frozen? ⟨NL, 0, none⟩ = false := (b3.frozen (p := ⟨NL, 0, none⟩) (World.block_lt_of_cell? wr _ hNc)).trans HZC.out
          obtain ⟨c, hc⟩ : ∃ c : Bool, ((S.r.length : Int) == 0) = c := ⟨_, rfl⟩
          have hsc2 : scn (prF o n L) (j + 1) = if c = true then 2 else 1 := by
            show (if scn (prF o n L) j = 2 then prF o n L j else scn (prF o n L) j) = _
            rw [if_pos (by rw [HSC.out]; rfl), hpk, ← hc]
            by_cases e0 : S.r.length = 0
            · rw [if_pos e0, if_pos (by simp [e0])]
            · rw [if_neg e0, if_neg (by simp [e0])]
          have HSC2 := Hid.mk' hsc2
          have hf3 : Fr (fun k => k = Q ∨ k = NL) w (w3.setCell ⟨NL, 0, none⟩ (.bool c)) := (HF.out.next b3).set (fun _ => .inr rfl)
          have fN : Fr (fun k => k = NL) w3 (w3.setCell ⟨NL, 0, none⟩ (.bool c)) := (Fr.refl _ w3).set (fun _ => rfl)
          have hq3 : Que (w3.setCell ⟨NL, 0, none⟩ (.bool c)) lo Q 0 lv n kf B (j + 1) (tri n) := (HQ.out.below b3).fr fN (fun q => n1 q.symm) (fun g hg q => HN3.out g hg q) (fun i i1 i2 q => HN2.out i i2 q)
          have cN : (w3.setCell ⟨NL, 0, none⟩ (.bool c)).cell? ⟨NL, 0, none⟩ = some (.bool c) := sc_same hN3
          have zN : (w3.setCell ⟨NL, 0, none⟩ (.bool c)).frozen? ⟨NL, 0, none⟩ = false := by rw [World.frozen?_setCell]; exact hZ3
          have hNl3 : NL < w3.heap.size := World.block_lt_of_cell? w3 _ hN3
          have HF3 := Hid.mk' hf3
          have HQ3 := Hid.mk' hq3
          have HCN := Hid.mk' cN
          have HZN := Hid.mk' zN
          clear hpk hsc2 hf3 fN hq3 cN zN b3 hO hL hNc
          go_wp2_with fail
          refine (POP.out _ (j + 1) (by omega) HQ3.out).mono ?_
          rintro r w4 ⟨p4, rfl, f4, hh4⟩
          have HF4 := Hid.mk' (HF3.out.step f4 (fun i _ q => .inl q))
          have HC4 : Hid (w4.cell? ⟨NL, 0, none⟩ = some (.bool c)) := (f4.cell (by simpa using hNl3) n1).trans HCN.out
          have HZ4 : Hid (w4.frozen? ⟨NL, 0, none⟩ = false) := (f4.frozen (by simpa using hNl3) n1).trans HZN.out
          have HH4 := Hid.mk' hh4
          clear f4 hh4 hN3 hZ3 hc
          go_wp2
          go_roundg (gk - 1)
          case measure => omega
          case rel => exact ⟨j + 1, p4, c, by omega, rfl, HF4.out, HC4.out, HZ4.out, HSC2.out, HH4.out⟩
        · have h0 : scn (prF o n L) (j + 1) = 0 := by
            show (if scn (prF o n L) j = 2 then prF o n L j else scn (prF o n L) j) = _
            rw [if_pos (by rw [HSC.out]; rfl), dvd_none ho HL.out HK.out hlt HRR.out]
          have hv0 : v = 0 := by rw [← HV.out, scn_stay (by rw [h0]; omega) (tri n) (by omega), h0]
          exact ⟨rfl, HF.out.next HB3.out, .inr (.inr ⟨hv0, rfl⟩)⟩
      · have hv2 : v = 2 := by rw [← HV.out, HSC.out]; rfl
        have HNC := Hid.mk' hNc
        clear hq hF
        go_wp2
        go_end0
        exact ⟨HF.out, .inl ⟨(by first | exact hv2 | rfl), rfl, HNC.out⟩⟩
theorem boxA (w : World) (v : Value) (y : TypeId) : (w.alloc (.cells #[v] y)).cell? ⟨w.heap.size, 0, none⟩ = some v := by rw [World.cell?_alloc_at _ _ _ _ rfl]; rfl
set_option maxRecDepth 100000 in
set_option maxHeartbeats 8000000 in
theorem grbOkI (w : World) (o : Int) (a : Option Addr) (n cap : Nat) (ad : Nat → Option Addr) (cp : Nat → Nat) (L : Nat → List T) (h : RdS w a n cap ad (lN L) cp (fN L)) :
    Calls Tryz.prog 37 #[.int .i64 o, .slice a n cap] w (Val w (.bool (grbOk o n L))) := by
  have q1 : (n : Int) ≤ 140737488351232 := by have := h.2.1; omega
  have hb0 := bel_two w (.cells #[.int .i64 o] 3) (.cells #[.slice a n cap] 24)
  have HH := Hid.mk' (h.below hb0)
  have HB0 := Hid.mk' hb0
  have hcO : ((w.alloc (.cells #[.int .i64 o] 3)).alloc (.cells #[.slice a n cap] 24)).cell? ⟨w.heap.size, 0, none⟩ = some (.int .i64 o) := ((bel_one _ _).cell (p := ⟨w.heap.size, 0, none⟩) (by simp)).trans (boxA w _ _)
  have hcL : ((w.alloc (.cells #[.int .i64 o] 3)).alloc (.cells #[.slice a n cap] 24)).cell? ⟨w.heap.size + 1, 0, none⟩ = some (.slice a n cap) := by
    have := boxA (w.alloc (.cells #[.int .i64 o] 3)) (.slice a n cap) 24
    rwa [World.size_alloc] at this
  have hlist : ∀ b off, a = some ⟨b, off, none⟩ → n ≠ 0 → b < w.heap.size := fun b off e h0 => by
    rcases h.2.2.1 with q | ⟨b', off', e', hlt, _⟩
    · exact absurd q h0
    · rw [e] at e'; cases e'; exact hlt
  have hels : ∀ i, i < n → (L i).length ≠ 0 → ∀ b off, ad i = some ⟨b, off, none⟩ → b < w.heap.size := fun i hi h0 b off e => by
    rcases (h.2.2.2 i hi).2.2 with q | ⟨b', off', e', hlt, _⟩
    · exact absurd q h0
    · rw [e] at e'; cases e'; exact hlt
  have HLI := Hid.mk' hlist
  have HEL := Hid.mk' hels
  clear h hlist hels
  unfold Val
  by_cases ho : 1 ≤ o ∧ o ≤ 3
  · cases hl : lstOk n (lN L) (fN L)
    · have e0 : grbOk o n L = false := decide_eq_false (fun hh => by rw [hl] at hh; exact absurd hh.2.1 (by simp))
      rw [e0]
      have HC := Hid.mk' (redLeadsI_no _ o a n cap ad (lN L) cp (fN L) HH.out ho.1 ho.2 hl)
      clear e0
      go_enter Tryz.func37, Tryz.ntmps37
      go_wp2_with fail
      refine HC.out.mono ?_
      rintro r w1 ⟨rfl, b1⟩
      have HB1 := Hid.mk' (bel_next HB0.out b1)
      clear b1
      go_wp2
      go_ret
      exact ⟨rfl, HB1.out⟩
    · have n12 := (lstOk_all hl).1
      have hn12 : (n : Int) ≤ 12 := by omega
      have HC := Hid.mk' (redLeadsI _ o a n cap ad (lN L) cp (fN L) HH.out ho.1 ho.2 hl)
      have HL := Hid.mk' hl
      rw [grbOk_scn ho hl]
      obtain ⟨v, hv⟩ : ∃ v, scn (prF o n L) (tri n) = v := ⟨_, rfl⟩
      rw [hv]
      have HV := Hid.mk' hv
      clear hl hv
      go_enter Tryz.func37, Tryz.ntmps37
      go_wp2_with fail
      refine HC.out.mono ?_
      rintro r w1 ⟨lv0, rfl, b1, hown⟩
      have hlen := ldsL_len o (lN L) (fN L) n
      obtain ⟨la, lc, rfl, hout⟩ := out_of_owns hown (by rw [hlen]; omega)
      rw [hlen]
      have hB1 := bel_next HB0.out b1
      have HB1 := Hid.mk' hB1
      have HH1 := Hid.mk' (HH.out.below b1)
      have cO : w1.cell? ⟨w.heap.size, 0, none⟩ = some (.int .i64 o) := (b1.cell (p := ⟨w.heap.size, 0, none⟩) (World.block_lt_of_cell? _ _ hcO)).trans hcO
      have cL : w1.cell? ⟨w.heap.size + 1, 0, none⟩ = some (.slice a n cap) := (b1.cell (p := ⟨w.heap.size + 1, 0, none⟩) (World.block_lt_of_cell? _ _ hcL)).trans hcL
      have hs1 : w.heap.size + 2 ≤ w1.heap.size := by have := b1.size; simp at this; omega
      have HRD := Hid.mk' hout.1
      have hrb : ∀ b off, la = some ⟨b, off, none⟩ → n ≠ 0 → b < w1.heap.size := fun b off e h0 => by
        rcases hout.1.2.2 with q | ⟨b', off', e', hlt, _⟩
        · rw [hlen] at q; exact absurd q h0
        · rw [e] at e'; cases e'; exact hlt
      have HRB := Hid.mk' hrb
      have HCO := Hid.mk' cO
      have HCL := Hid.mk' cL
      have HQ0 : Hid (Que (w1.alloc (.cells #[.slice none 0 0, .pointer none, .pointer none] 99)) w1.heap.size w1.heap.size 0 (.slice none 0 0) 0 (fun i => ldL o (L i)) (fun _ => 0) 0 0) := ⟨by rw [World.cell?_alloc_at _ _ _ _ rfl]; rfl, by rw [World.cell?_alloc_at _ _ _ _ rfl]; rfl, ⟨_, by rw [World.cell?_alloc_at _ _ _ _ rfl]; rfl, fun q => by omega⟩, ⟨by simp [go_sem], by simp [go_sem], by simp [go_sem]⟩, ownsT_nil _ _, fun g hg => by simp [Value.ownBlock] at hg, fun j _ hj => by omega, fun j _ hj => by omega, fun i j _ _ hj => by omega, Nat.le_refl _⟩
      have HBQ := Hid.mk' (bel_one w1 (.cells #[.slice none 0 0, .pointer none, .pointer none] 99))
      clear hown hout b1 hB1 hcO hcL cO cL hrb HC HH
      go_wp2
      generalize hwq : w1.alloc (.cells #[.slice none 0 0, .pointer none, .pointer none] 99) = wq at *
      go_loopw [22] (fun vi wr => ∃ (i : Nat) (lv : Value) (B : Nat → Nat), i ≤ n ∧ vi = .int .i64 (i : Int) ∧ Que wr w1.heap.size w1.heap.size 0 lv i (fun i => ldL o (L i)) B 0 (tri i) ∧ Below w1.heap.size w1 wr ∧ (∀ g, lv.ownBlock = some g → w1.heap.size < g) ∧ (∀ j, j < tri i → w1.heap.size < B j)) (fun vi _ => n - (intOf vi).toNat)
      case atStart => exact ⟨0, _, _, Nat.zero_le _, rfl, HQ0.out, HBQ.out, fun g hg => by simp [Value.ownBlock] at hg, fun j hj => absurd hj (Nat.not_lt_zero _)⟩
      case round =>
        obtain ⟨i, lv, B, hi, rfl, hQ, hB, hg, hBj⟩ := hrel
        have HB := Hid.mk' hB
        have HG := Hid.mk' hg
        have HBJ := Hid.mk' hBj
        have HQ := Hid.mk' hQ
        by_cases hlt : i < n
        · have hil : (i : Int) < (n : Int) := by omega
          rcases HRD.out.2.2 with h0 | ⟨bb, off, rfl, hblt, hcl⟩
          · rw [hlen] at h0; omega
          obtain ⟨g0, g1, g2, g3, g4⟩ := hcl i (by rw [hlen]; exact hlt)
          rw [ldsL_at o (lN L) (fN L) n i hlt] at g0 g1 g2 g3 g4
          obtain ⟨t, ht⟩ : ∃ t, ldL o (L i) = t := ⟨_, rfl⟩
          have ht' : ldAt o (lN L) (fN L) i = t := ht
          rw [ht'] at g0 g1 g2 g3 g4
          have k0 : wr.cell? ⟨bb, off + i * 5, none⟩ = some (.int .i64 t.c) := (hB.cell (p := ⟨bb, off + i * 5, none⟩) hblt).trans g0
          have k1 : wr.cell? ⟨bb, off + i * 5 + 1, none⟩ = some (.int .i64 t.m.x) := (hB.cell (p := ⟨bb, off + i * 5 + 1, none⟩) hblt).trans g1
          have k2 : wr.cell? ⟨bb, off + i * 5 + 2, none⟩ = some (.int .i64 t.m.y) := (hB.cell (p := ⟨bb, off + i * 5 + 2, none⟩) hblt).trans g2
          have k3 : wr.cell? ⟨bb, off + i * 5 + 3, none⟩ = some (.int .i64 t.m.d) := (hB.cell (p := ⟨bb, off + i * 5 + 3, none⟩) hblt).trans g3
          have k4 : wr.cell? ⟨bb, off + i * 5 + 4, none⟩ = some (.int .i64 t.m.e) := (hB.cell (p := ⟨bb, off + i * 5 + 4, none⟩) hblt).trans g4
          have bbx := bel_one wr (.cells #[.int .i64 t.c, .int .i64 t.m.x, .int .i64 t.m.y, .int .i64 t.m.d, .int .i64 t.m.e] 42)
          have hsr : w1.heap.size ≤ wr.heap.size := hB.size
          have HCM := Hid.mk' (comeI _ w1.heap.size w1.heap.size 0 lv i (fun i => ldL o (L i)) B 0 (hQ.below bbx) (Nat.zero_le _) (by omega) (by simp; omega) t ht)
          have HBX := Hid.mk' (hB.trans (bbx.mono hsr))
          have hlw : lv.ownBlock = none ∨ True := .inr trivial
          clear hcl g0 g1 g2 g3 g4 ht ht' hQ hB hg hBj bbx hlw
          go_wp2_with fail
          refine HCM.out.mono ?_
          rintro r w3 ⟨rfl, lv', B', hQ3, e1, e2, e3, f3⟩
          have HQ3 := Hid.mk' hQ3
          have HB3 : Hid (Below w1.heap.size w1 w3) := f3.below HBX.out (fun k q => by
            rcases q with q | q | ⟨q1, q2⟩
            · omega
            · have := HG.out k q; omega
            · have := HBJ.out (tri i - 1) (by omega); omega) (Nat.le_refl _)
          have HG3 : Hid (∀ g, lv'.ownBlock = some g → w1.heap.size < g) := fun g hg => by
            rcases e3 g hg with q | q
            · exact HG.out g q
            · simp at q; omega
          have HBJ3 : Hid (∀ j, j < tri (i + 1) → w1.heap.size < B' j) := fun j hj => by
            rcases Nat.lt_or_ge j (tri i) with q | q
            · rw [e1 j q]; exact HBJ.out j q
            · have := e2 j q hj; simp at this; omega
          clear hQ3 e1 e2 e3 f3 k0 k1 k2 k3 k4
          go_wp2
          go_roundw
          case rel => exact ⟨i + 1, lv', B', by omega, by go_num, HQ3.out, HB3.out, HG3.out, HBJ3.out⟩
          case measure => simp [intOf]; omega
        · have hie : i = n := by omega
          subst hie
          have hnl : ¬ (i : Int) < (i : Int) := by omega
          have hsr : w1.heap.size ≤ wr.heap.size := hB.size
          have bN := bel_one wr (.cells #[.bool true] 4)
          have hcN := boxA wr (.bool true) 4
          have hBN := hB.trans (bN.mono hsr)
          have HCL1 := Hid.mk' (grbOk1I (wr.alloc (.cells #[.bool true] 4)) w1.heap.size w1.heap.size wr.heap.size w.heap.size (w.heap.size + 1) lv i (fun i => ldL o (L i)) B (hQ.below bN) hcN (by simp [go_sem]) o ((hBN.cell (p := ⟨w.heap.size, 0, none⟩) (by show w.heap.size < w1.heap.size; omega)).trans HCO.out) a cap ad cp L ((hBN.cell (p := ⟨w.heap.size + 1, 0, none⟩) (by show w.heap.size + 1 < w1.heap.size; omega)).trans HCL.out) (HH1.out.below hBN) ho HL.out (fun _ _ => rfl) (by have := hQ.lt; omega) (fun j hj => by have := (hQ.pr j (Nat.zero_le _) hj).lt; omega) (fun g hg => by have := (hQ.own.lt g hg).2; omega) ⟨by omega, by omega⟩ ⟨by omega, by omega⟩ (fun h0 b off e => by have := HLI.out b off e h0; omega) (fun j hj h0 b off e => by have := HEL.out j hj h0 b off e; omega))
          have hv3 : v = 2 ∨ v = 1 ∨ v = 0 := by
            have := scn_le o i L (tri i)
            have := HV.out
            omega
          have HBN := Hid.mk' hBN
          have HcN := Hid.mk' hcN
          have hfb : ∀ u, Fr (fun k => k = w1.heap.size ∨ k = wr.heap.size) (wr.alloc (.cells #[.bool true] 4)) u → Below w.heap.size w u := fun u hf => HB1.out.trans ((hf.below hBN (fun k q => by omega) (Nat.le_refl _)).mono (by omega))
          have HFB := Hid.mk' hfb
          rw [HV.out] at HCL1
          clear hQ hB hg hBj bN hcN hBN hfb
          rcases hv3 with rfl | rfl | rfl
          · have HE := Hid.mk' (redEnds_yes 79 #[.pointer (some ⟨w1.heap.size, 0, none⟩), .pointer (some ⟨wr.heap.size, 0, none⟩), .pointer (some ⟨w.heap.size, 0, none⟩), .pointer (some ⟨w.heap.size + 1, 0, none⟩)] (wr.alloc (.cells #[.bool true] 4)) (fun u => Below w.heap.size w u ∧ u.cell? ⟨wr.heap.size, 0, none⟩ = some (.bool true)) (enters_of Tryz.func79 (by kernel_rfl) rfl) (HCL1.out.mono fun r u hh => by
              rcases hh with ⟨hf, ⟨_, hr, hc⟩ | ⟨q, _⟩ | ⟨q, _⟩⟩
              · exact ⟨hr, HFB.out u hf, hc⟩
              · omega
              · omega))
            clear HCL1
            go_wp2_with fail
            refine HE.out.mono ?_
            rintro r w5 ⟨rfl, w4, ⟨b4, c4⟩, rfl⟩
            have c5 : (w4.alloc (.cells #[] 149)).cell? ⟨wr.heap.size, 0, none⟩ = some (.bool true) := ((bel_one w4 _).cell (p := ⟨wr.heap.size, 0, none⟩) (World.block_lt_of_cell? w4 _ c4)).trans c4
            have HB5 := Hid.mk' (bel_next b4 (bel_one w4 (.cells #[] 149)))
            clear b4 c4
            go_wp2
            go_ret
            exact ⟨rfl, HB5.out⟩
          · have HE := Hid.mk' (redEnds_yes 79 #[.pointer (some ⟨w1.heap.size, 0, none⟩), .pointer (some ⟨wr.heap.size, 0, none⟩), .pointer (some ⟨w.heap.size, 0, none⟩), .pointer (some ⟨w.heap.size + 1, 0, none⟩)] (wr.alloc (.cells #[.bool true] 4)) (fun u => Below w.heap.size w u ∧ u.cell? ⟨wr.heap.size, 0, none⟩ = some (.bool false)) (enters_of Tryz.func79 (by kernel_rfl) rfl) (HCL1.out.mono fun r u hh => by
              rcases hh with ⟨hf, ⟨q, _⟩ | ⟨_, hr, hc⟩ | ⟨q, _⟩⟩
              · omega
              · exact ⟨hr, HFB.out u hf, hc⟩
              · omega))
            clear HCL1
            go_wp2_with fail
            refine HE.out.mono ?_
            rintro r w5 ⟨rfl, w4, ⟨b4, c4⟩, rfl⟩
            have c5 : (w4.alloc (.cells #[] 149)).cell? ⟨wr.heap.size, 0, none⟩ = some (.bool false) := ((bel_one w4 _).cell (p := ⟨wr.heap.size, 0, none⟩) (World.block_lt_of_cell? w4 _ c4)).trans c4
            have HB5 := Hid.mk' (bel_next b4 (bel_one w4 (.cells #[] 149)))
            clear b4 c4
            go_wp2
            go_ret
            exact ⟨rfl, HB5.out⟩
          · have HE := Hid.mk' (redEnds_no 79 #[.pointer (some ⟨w1.heap.size, 0, none⟩), .pointer (some ⟨wr.heap.size, 0, none⟩), .pointer (some ⟨w.heap.size, 0, none⟩), .pointer (some ⟨w.heap.size + 1, 0, none⟩)] (wr.alloc (.cells #[.bool true] 4)) (fun u => Below w.heap.size w u) (enters_of Tryz.func79 (by kernel_rfl) rfl) (HCL1.out.mono fun r u hh => by
              rcases hh with ⟨hf, ⟨q, _⟩ | ⟨q, _⟩ | ⟨_, hr⟩⟩
              · omega
              · omega
              · exact ⟨hr, HFB.out u hf⟩))
            clear HCL1
            go_wp2_with fail
            refine HE.out.mono ?_
            rintro r w5 ⟨rfl, w4, b4, rfl⟩
            have HB5 := Hid.mk' (bel_next b4 (bel_one w4 (.cells #[] 149)))
            clear b4
            go_wp2
            go_ret
            exact ⟨rfl, HB5.out⟩
  · have e0 : grbOk o n L = false := decide_eq_false (fun hh => ho hh.1)
    rw [e0]
    have HC := Hid.mk' (redLeadsI_out ((w.alloc (.cells #[.int .i64 o] 3)).alloc (.cells #[.slice a n cap] 24)) o a n cap (by omega))
    clear e0
    go_enter Tryz.func37, Tryz.ntmps37
    go_wp2_with fail
    refine HC.out.mono ?_
    rintro r w1 ⟨rfl, b1⟩
    have HB1 := Hid.mk' (bel_next HB0.out b1)
    clear b1
    go_wp2
    go_ret
    exact ⟨rfl, HB1.out⟩
end Go.Proofs.YtdidlcjhodejjaaGreat
