/-
  What is made of a list; when a list is a basis; what is left by a basis.
  Bases that are made: each proves itself, and one that is done is a basis.
  An order, and an order with two operators, are drawn.
-/
import Derived.Test.YtbkighpmkadmmaaHbq
import Derived.Test.YtbkighpmkadmmaaHbl
import Derived.Test.YtbkighpmkadmmaaHbe
import Derived.Test.YtbkighpmkadmmaaHbm
import Derived.Test.YtbkighpmkadmmaaHbb
import Derived.Test.YtbkighpmkadmmaaHak
namespace Go.Proofs.Ytbkighpmkadmmaa
open Go.RowKit Go.Deep Go.Joins
set_option linter.unusedVariables false

theorem sc_nil (d : Fq) : Lq.sc d Lq.nil = Lq.nil := Lq.ext fun u n k => by show d * (0 : Fq) = 0; grind
theorem nil_sum (A : Lq) : Lq.sum Lq.nil A = A := by rw [Lq.sum_comm, Lq.sum_nil]
section
variable {o : Int} {n : Nat} {L : Nat → List T}
theorem Rp_cons (g : Gen) (t : T) (r : List T) : Rp g (t :: r) = Lq.sum (Lq.sc (zz t.c) (mo g t.m)) (Rp g r) := Lq.ext fun u n k => rfl
theorem mo_zero (A : Lq) : Lq.mul (mo regG ⟨0, 0, 0, 0⟩) A = A := rfl
theorem M.sum_comm (a b : M) : a.sum b = b.sum a := by
  unfold M.sum
  refine M.eta4 ?_ ?_ ?_ ?_ <;> (simp only; omega)
theorem lds_of (ho : 1 ≤ o ∧ o ≤ 3) (hl : lstOk n (lN L) (fN L) = true) : Lds o n L := ⟨ho, fun j hj => ⟨((lstOk_all hl).2 j hj).2, ((lstOk_all hl).2 j hj).1⟩⟩
theorem zz100 : zz 100 = -1 := by decide
theorem left_Rp {p : List T} {S : Dv} (h : redAll o p n (lN L) (fN L) = some S) : Rp regG S.r = Lq.sum (Rp regG p) (Lq.sc (-1) (qsum regG n L S.q)) := by
  rw [← redAll_all regG h]
  refine Lq.ext fun u a b => ?_
  simp only [sum_f, sc_f]
  grind
/-! pairs -/
theorem Lo.rp {δ : M} {j : Nat} (hj : j < n) : ∀ q : List T, (∀ t ∈ q, t.m.nn ∧ klt o (t.m.sum (lmL o L j)) δ) → Lo o n L δ (Lq.mul (Rp regG q) (Rp regG (L j)))
  | [], _ => by rw [Rp_nil, Lq.nil_mul]; exact Lo.nil
  | t :: r, hq => by
    rw [Rp_cons, Lq.sum_mul, Lq.sc_mul]
    obtain ⟨h1, h2⟩ := hq t (List.mem_cons_self ..)
    exact Lo.cons _ t.m j hj h1 h2 (Lo.rp hj r (fun s hs => hq s (List.mem_cons_of_mem _ hs)))
theorem Lo.sumN {δ : M} {f : Nat → Lq} : ∀ k, (∀ i, i < k → Lo o n L δ (f i)) → Lo o n L δ (Lq.sumN f k)
  | 0, _ => Lo.nil
  | k + 1, h => Lo.sum (Lo.sumN k (fun i hi => h i (by omega))) (h k (by omega))
theorem mx_lcm (a b : Int) : mx a b = if a ≤ b then b else a := by
  unfold mx; split <;> split <;> omega
theorem both_lcm {a b : M} (ha : a.ok = true) (hb : b.ok = true) : M.both a b = M.lcm a b := by
  unfold M.both M.lcm
  rw [if_pos ⟨ha, hb⟩]
  simp only [mx_lcm]
theorem mul_sum' {a b c : M} (h : M.mul a b = (c, true)) : a.sum b = c ∧ c.ok = true := by
  unfold M.mul at h
  split at h
  · rename_i hh
    cases h
    exact ⟨rfl, hh.2.2⟩
  · cases h
theorem c3_lt {a b : Int} (h : c3 a b < 0) : a < b := by unfold c3 at h; split at h <;> (try split at h) <;> omega
theorem sum_sub {a b c : M} (h : a.sum b = c) : a = M.sub c b := by
  rw [← h]
  unfold M.sub M.sum
  refine M.eta4 ?_ ?_ ?_ ?_ <;> (simp only; omega)
theorem fM_zz {a b : Int} (ha : 1 ≤ a ∧ a ≤ 100) (hb : 1 ≤ b ∧ b ≤ 100) (h : fMul a b = 1) : zz a * zz b = 1 := by
  rw [fMul_in (by omega) ha.2 (by omega) hb.2] at h
  rw [← zz_mul, ← zz_mod, h]
  rfl
/-- how what is left of a pair is made, and what is left when that is divided. -/
theorem std_rep (hL : Lds o n L) {i k : Nat} (hi : i < n) (hk : k < n) {s : List T} (hs : sprPoly o (lf (L i)) (L i).length (lf (L k)) (L k).length = (s, true)) :
    ∃ U V : T, U = sprU o (L i).length (lf (L i)) (L k).length (lf (L k)) ∧ V = sprV o (L i).length (lf (L i)) (L k).length (lf (L k)) ∧ zz U.c * zz (ldL o (L i)).c = 1 ∧ zz V.c * zz (ldL o (L k)).c = 1 ∧ U.m = M.sub (M.lcm (lmL o L i) (lmL o L k)) (lmL o L i) ∧ V.m = M.sub (M.lcm (lmL o L i) (lmL o L k)) (lmL o L k) ∧
      Rp regG s = Lq.sum (Lq.sc (zz U.c) (Lq.mul (mo regG U.m) (Rp regG (L i)))) (Lq.sc (-(zz V.c)) (Lq.mul (mo regG V.m) (Rp regG (L k)))) ∧ (M.lcm (lmL o L i) (lmL o L k)).ok = true ∧ ∀ t ∈ s, rkW o t.m < rkW o (M.lcm (lmL o L i) (lmL o L k)) := by
  obtain ⟨hok, X, Y, hX, hY, oX, oY, es, hl⟩ := sprPoly_parts hs
  obtain ⟨gU, gV⟩ := spr_good hok
  obtain ⟨m1, m2, c1, c2, _⟩ := spr_law hok
  have hb := spr_below hs
  have li : leadT o (L i).length (lf (L i)) = ldL o (L i) := (ldL_is hL.ho (hL.fl i hi).1 (hL.fl i hi).2).symm
  have lk : leadT o (L k).length (lf (L k)) = ldL o (L k) := (ldL_is hL.ho (hL.fl k hk).1 (hL.fl k hk).2).symm
  have eB : sprB o (L i).length (lf (L i)) (L k).length (lf (L k)) = M.lcm (lmL o L i) (lmL o L k) := by
    unfold sprB
    rw [li, lk]
    exact both_lcm (hL.good hi).1 (hL.good hk).1
  rw [eB, li] at m1
  rw [eB, lk] at m2
  rw [li] at c1
  rw [lk] at c2
  rw [eB] at hb
  obtain ⟨s1, k1⟩ := mul_sum' m1
  obtain ⟨s2, _⟩ := mul_sum' m2
  refine ⟨_, _, rfl, rfl, fM_zz gU.2 (hL.good hi).2 c1, fM_zz gV.2 (hL.good hk).2 c2, sum_sub s1, sum_sub s2, ?_, k1, fun t ht => ?_⟩
  · rw [es, Rp_sub regG (okL_falls oX).2 (okL_falls oY).2, Rp_mul regG hX, Rp_mul regG hY, Rp_one, Rp_one, Lq.sc_mul, Lq.sc_mul, Lq.sc_sc, zz100]
    congr 2
    grind
  · have fs : Falls s := (okL_falls (spr_ok hs)).2
    have := hb t ht
    unfold M.cmp at this
    rw [if_pos ⟨hL.ho, (fs.2 t ht).1, k1⟩, rkW_ord hL.ho (fs.2 t ht).1 k1] at this
    exact c3_lt this
theorem std_div (hL : Lds o n L) {s : List T} {S : Dv} (hr : redAll o s n (lN L) (fN L) = some S) {μ : M} (hμ : μ.ok = true) (hs : ∀ t ∈ s, rkW o t.m < rkW o μ) : Lo o n L μ (qsum regG n L S.q) ∧ ∀ t ∈ S.r, rkW o t.m < rkW o μ := by
  obtain ⟨r1, r2⟩ := red_lead hr (N := rkW o μ - 1) (fun t ht => by have := hs t ht; omega)
  refine ⟨Lo.sumN n fun i hi => Lo.rp hi _ (fun t ht => ?_), fun t ht => by have := r1 t ht; omega⟩
  obtain ⟨h1, h2⟩ := r2 i hi t ht
  have fq := (redAll_ok hr).1.q i
  exact ⟨M.nn_ok (fq.1.2 t ht).1, rkW_klt hL.ho h1 hμ (by show rkW o (t.m.sum (ldL o (L i)).m) < _; omega)⟩
theorem pair_std (hL : Lds o n L) {i k : Nat} (hi : i < n) (hk : k < n) {s : List T} (hs : sprPoly o (lf (L i)) (L i).length (lf (L k)) (L k).length = (s, true)) (h : Lo o n L (M.lcm (lmL o L i) (lmL o L k)) (Rp regG s)) : Pair o n L i k := fun u v hu hv => by
  obtain ⟨U, V, _, _, u1, v1, um, vm, e, _⟩ := std_rep hL hi hk hs
  have eu : u = zz U.c := by
    have : u * (zz (ldL o (L i)).c * zz U.c) = zz U.c := by rw [← Fin.mul_assoc, hu]; grind
    have u1' : zz (ldL o (L i)).c * zz U.c = 1 := by grind
    rw [u1'] at this
    grind
  have ev : v = zz V.c := by
    have : v * (zz (ldL o (L k)).c * zz V.c) = zz V.c := by rw [← Fin.mul_assoc, hv]; grind
    have u1' : zz (ldL o (L k)).c * zz V.c = 1 := by grind
    rw [u1'] at this
    grind
  rw [e] at h
  rw [eu, ev, ← um, ← vm]
  exact h
/-- of a pair nothing is left. -/
theorem pair_done (hL : Lds o n L) {i k : Nat} (hi : i < n) (hk : k < n) {s : List T} (hs : sprPoly o (lf (L i)) (L i).length (lf (L k)) (L k).length = (s, true)) {S : Dv} (hr : redAll o s n (lN L) (fN L) = some S) (h0 : S.r = []) : Pair o n L i k := by
  obtain ⟨U, V, _, _, u1, v1, um, vm, e, k1, hb⟩ := std_rep hL hi hk hs
  refine pair_std hL hi hk hs ?_
  rw [← redAll_all regG hr, h0, Rp_nil, Lq.sum_nil]
  exact (std_div hL hr k1 hb).1
end
end Go.Proofs.Ytbkighpmkadmmaa
namespace Go.Proofs.Ytbkighpmkadmmaa
open Go.RowKit Go.Deep Go.Joins
set_option linter.unusedVariables false

theorem wm_mulM {q X P : List T} (hq : okL q = true) (hX : okL X = true) (h : mulM (lf q) (lf X) X.length q.length = some P) : wmV q X = (P, true) := by
  unfold wmV wylMul
  rw [if_pos ⟨hq, hX⟩, h]
  rfl
theorem lessE_Rp (g : Gen) {R q X Y : List T} (hR : okL R = true) (hq : okL q = true) (hX : okL X = true) (h : lessE R q X = some Y) : Rp g Y = Lq.sum (Rp g R) (Lq.sc (-1) (Lq.mul (Rp g q) (Rp g X))) := by
  unfold lessE at h
  split at h
  · rename_i P hP
    split at h
    · have hw := wm_mulM hq hX hP
      cases h
      rw [Rp_sub g (okL_falls hR).2 (okL_falls (wm_ok hw)).2, Rp_mul g hw, zz100]
    · cases h
  · cases h
theorem lessR_Rp {row : Nat → List T} {q : List T} {oth : Nat → List T} {g : Nat} (hrow : ∀ i, i < g → okL (row i) = true) (hq : okL q = true) (ho : ∀ i, i < g → okL (oth i) = true) : ∀ j R, j ≤ g → lessR row q oth j = some R → ∀ i, i < j → Rp regG (R i) = Lq.sum (Rp regG (row i)) (Lq.sc (-1) (Lq.mul (Rp regG q) (Rp regG (oth i))))
  | 0, R, _, _, i, hi => by omega
  | j + 1, R, hj, h, i, hi => by
    cases hr : lessR row q oth j with
    | none => have := lessR_none hr 1; rw [this] at h; cases h
    | some R1 =>
      cases he : lessE (row j) q (oth j) with
      | none => have := lessR_bad (g := j + 1) (by omega) hr he; rw [this] at h; cases h
      | some Y =>
        rw [lessR_step hr he] at h
        cases h
        unfold updL
        split
        · rename_i e
          subst e
          exact lessE_Rp regG (hrow i (by omega)) hq (ho i (by omega)) he
        · exact lessR_Rp hrow hq ho j R1 (by omega) hr i (by omega)
theorem qsum_less {g : Nat} {L0 row oth R : Nat → List T} {A : Lq} (h : ∀ i, i < g → Rp regG (R i) = Lq.sum (Rp regG (row i)) (Lq.sc (-1) (Lq.mul A (Rp regG (oth i))))) : qsum regG g L0 R = Lq.sum (qsum regG g L0 row) (Lq.sc (-1) (Lq.mul A (qsum regG g L0 oth))) := by
  unfold qsum
  rw [Lq.mul_sumN, Lq.sc_sumN, ← Lq.sumN_sum]
  exact Lq.sumN_congr fun i hi => by rw [h i hi, Lq.sum_mul, Lq.sc_mul, Lq.mul_assoc]
theorem lessR_qsum {g : Nat} {L0 row oth R : Nat → List T} {q : List T} (hrow : ∀ i, i < g → okL (row i) = true) (hq : okL q = true) (ho : ∀ i, i < g → okL (oth i) = true) (h : lessR row q oth g = some R) : qsum regG g L0 R = Lq.sum (qsum regG g L0 row) (Lq.sc (-1) (Lq.mul (Rp regG q) (qsum regG g L0 oth))) :=
  qsum_less (lessR_Rp hrow hq ho g R (Nat.le_refl _) h)
theorem zz_neg1 (c : Int) : zz (101 - c) = -(zz c) := by
  have h : zz (101 - c) + zz c = 0 := by rw [← zz_add, show 101 - c + c = 101 by omega]; rfl
  grind
theorem made_qsum {g m : Nat} {L0 L : Nat → List T} {P : Nat → Nat → List T} {i k : Nat} {u v : T} {qs : Nat → List T} (hi : i < m) (hk : k < m) (hP : ∀ i, i < m → ∀ j, j < g → okL (P i j) = true) (hu : okL [negT1 u] = true) (hv : okL [v] = true) (hq : ∀ t, t < m → okL (qs t) = true) (hpf : ∀ i, i < m → qsum regG g L0 (P i) = Rp regG (L i)) :
    ∀ t R, t ≤ m → madeN g P qs (made1 g P i k u v) t = some R → qsum regG g L0 R = Lq.sum (Lq.sum (Lq.sc (zz u.c) (Lq.mul (mo regG u.m) (Rp regG (L i)))) (Lq.sc (-(zz v.c)) (Lq.mul (mo regG v.m) (Rp regG (L k))))) (Lq.sc (-1) (qsum regG t L qs))
  | 0, R, _, h => by
    change made1 g P i k u v = some R at h
    unfold made1 at h
    split at h
    · cases h
    · rename_i R1 h1
      have ok1 := lessR_ok (fun _ _ => okL_nil) hu (hP i hi) g R1 (Nat.le_refl _) h1
      rw [lessR_qsum ok1 hv (hP k hk) h, lessR_qsum (fun _ _ => okL_nil) hu (hP i hi) h1, hpf i hi, hpf k hk, qsum_nil, Rp_one, Rp_one]
      have e : qsum regG 0 L qs = Lq.nil := rfl
      rw [e, sc_nil, Lq.sum_nil, nil_sum, Lq.sc_mul, Lq.sc_mul, Lq.sc_sc, Lq.sc_sc]
      show Lq.sum (Lq.sc (-1 * zz (101 - u.c)) _) _ = _
      rw [zz_neg1, show (-1 : Fq) * -(zz u.c) = zz u.c by grind, show (-1 : Fq) * zz v.c = -(zz v.c) by grind]
      rfl
  | t + 1, R, ht, h => by
    cases hr : madeN g P qs (made1 g P i k u v) t with
    | none => have := madeN_none hr 1; rw [this] at h; cases h
    | some R1 =>
      have h' : lessR R1 (qs t) (P t) g = some R := by
        have : madeN g P qs (made1 g P i k u v) (t + 1) = lessR R1 (qs t) (P t) g := by
          show (match madeN g P qs (made1 g P i k u v) t with | none => none | some R => lessR R (qs t) (P t) g) = _
          rw [hr]
        rw [← this]; exact h
      rw [lessR_qsum (made_ok hi hk hP hu hv hq t R1 (by omega) hr) (hq t (by omega)) (hP t (by omega)) h', made_qsum hi hk hP hu hv hq hpf t R1 (by omega) hr, hpf t (by omega)]
      have e : qsum regG (t + 1) L qs = Lq.sum (qsum regG t L qs) (Lq.mul (Rp regG (qs t)) (Rp regG (L t))) := rfl
      rw [e]
      refine Lq.ext fun u a b => ?_
      simp only [sum_f, sc_f]
      grind
/-! lists that grow -/
theorem lmL_same {o : Int} {L L' : Nat → List T} {j : Nat} (h : L' j = L j) : lmL o L' j = lmL o L j := by unfold lmL; rw [h]
theorem Lo.grow {o : Int} {n n' : Nat} {L L' : Nat → List T} (hn : n ≤ n') (h : ∀ j, j < n → L' j = L j) {δ : M} {A : Lq} (hA : Lo o n L δ A) : Lo o n' L' δ A := by
  induction hA with
  | nil => exact Lo.nil
  | cons c m j h1 h2 h3 h4 ih =>
    rw [← h j h1]
    exact Lo.cons c m j (by omega) h2 (by rw [lmL_same (h j h1)]; exact h3) ih
theorem Pair.grow {o : Int} {n n' : Nat} {L L' : Nat → List T} (hn : n ≤ n') (h : ∀ j, j < n → L' j = L j) {i k : Nat} (hi : i < n) (hk : k < n) (hP : Pair o n L i k) : Pair o n' L' i k := fun u v hu hv => by
  rw [h i hi] at hu
  rw [h k hk] at hv
  rw [lmL_same (h i hi), lmL_same (h k hk), h i hi, h k hk]
  exact (hP u v hu hv).grow hn h
theorem updL_lt {L : Nat → List T} {m : Nat} {r : List T} {j : Nat} (h : j < m) : updL L m r j = L j := by unfold updL; rw [if_neg (by omega)]
theorem updL_eq {L : Nat → List T} {m : Nat} {r : List T} : updL L m r m = r := by unfold updL; rw [if_pos rfl]
theorem updP_lt {P : Nat → Nat → List T} {m : Nat} {R : Nat → List T} {j : Nat} (h : j < m) : updP P m R j = P j := by unfold updP; rw [if_neg (by omega)]
theorem updP_eq {P : Nat → Nat → List T} {m : Nat} {R : Nat → List T} : updP P m R m = R := by unfold updP; rw [if_pos rfl]
/-- what is true of a basis on its way, all the time. -/
structure Mk (o : Int) (g : Nat) (L0 : Nat → List T) (B : Bs) (j : Nat) : Prop where
  ok : BsOk o g B
  le : g ≤ B.m
  pre : ∀ i, i < g → B.L i = L0 i
  pf : ∀ i, i < B.m → qsum regG g L0 (B.P i) = Rp regG (B.L i)
  pr : ∀ i k, i < k → k < B.m → tri k + i < j → Pair o B.m B.L i k
theorem stepB_cases {o : Int} {g : Nat} {B B' : Bs} {i k : Nat} (hs : stepB o g B i k = some B') : ∃ s S, spP o (B.L i) (B.L k) = (s, true) ∧ redAll o s B.m (lN B.L) (fN B.L) = some S ∧ ((S.r = [] ∧ B' = B) ∨ (S.r.length ≠ 0 ∧ ∃ R, made g B.P i k (spU o (B.L i) (B.L k)) (spV o (B.L i) (B.L k)) B.m S.q = some R ∧ B' = addB B S.r R)) := by
  unfold stepB at hs
  split at hs
  · rename_i s hsp
    split at hs
    · rename_i S hS
      refine ⟨s, S, hsp, hS, ?_⟩
      split at hs
      · rename_i h0; cases hs; exact .inl ⟨List.length_eq_zero_iff.1 h0, rfl⟩
      · rename_i h0
        split at hs
        · cases hs
        · split at hs
          · rename_i R hR
            cases hs
            exact .inr ⟨h0, R, hR, rfl⟩
          · cases hs
    · cases hs
  · cases hs
theorem Mk.step {o : Int} {g : Nat} {L0 : Nat → List T} {B B' : Bs} {j : Nat} (h : Mk o g L0 B j) (hj : j < tri B.m) (hs : stepB o g B (pq j).1 (pq j).2 = some B') : Mk o g L0 B' (j + 1) := by
  obtain ⟨k, i, hk, hik, ej⟩ := tri_at B.m j hj
  have epq : pq j = (i, k) := by rw [ej]; exact pq_tri k i hik
  rw [epq] at hs
  have hs' : stepB o g B i k = some B' := hs
  have hi : i < B.m := by omega
  have hok' := stepB_ok h.ok hi hk hs'
  have hL := lds_of h.ok.ho h.ok.l
  obtain ⟨s, S, hsp, hS, hc⟩ := stepB_cases hs'
  have one : ∀ i' k', i' < k' → tri k' + i' < j + 1 → tri k' + i' < j ∨ (i' = i ∧ k' = k) := fun i' k' h1 h2 => by
    by_cases e : tri k' + i' = j
    · have := pq_tri k' i' h1
      rw [e, epq] at this
      cases this
      exact .inr ⟨rfl, rfl⟩
    · exact .inl (by omega)
  obtain ⟨U, V, eU, eV, u1, v1, um, vm, e, k1, hb⟩ := std_rep hL hi hk hsp
  obtain ⟨lo1, lo2⟩ := std_div hL hS k1 hb
  rcases hc with ⟨h0, rfl⟩ | ⟨h0, R, hR, rfl⟩
  · refine ⟨hok', h.le, h.pre, h.pf, fun i' k' h1 h2 h3 => ?_⟩
    rcases one i' k' h1 h3 with q | ⟨rfl, rfl⟩
    · exact h.pr i' k' h1 h2 q
    · exact pair_done hL hi hk hsp hS h0
  · have hok2 := hok'
    have hle := h.le
    refine ⟨hok', by show g ≤ B.m + 1; omega, fun i' hi' => (updL_lt (by omega)).trans (h.pre i' hi'), fun i' hi' => ?_, fun i' k' h1 h2 h3 => ?_⟩
    · show qsum regG g L0 (updP B.P B.m R i') = Rp regG (updL B.L B.m S.r i')
      by_cases ei : i' = B.m
      · subst ei
        rw [updP_eq, updL_eq]
        obtain ⟨⟨_, g2, g3⟩, _⟩ := spUV_good hsp
        rw [made_qsum hi hk h.ok.p g2 g3 (fun t _ => okL_of (by have := ((redAll_ok hS).1.q t).2; omega) ((redAll_ok hS).1.q t).1) h.pf B.m R (Nat.le_refl _) hR, left_Rp hS, e, eU, eV]
      · have hi2 : i' < B.m + 1 := hi'
        rw [updP_lt (by omega), updL_lt (by omega)]
        exact h.pf i' (by omega)
    · have grow : ∀ j, j < B.m → updL B.L B.m S.r j = B.L j := fun j hj => updL_lt hj
      have hk' : k' < B.m := by
        have h2' : k' < B.m + 1 := h2
        by_cases ek : k' = B.m
        · subst ek; omega
        · omega
      show Pair o (B.m + 1) (updL B.L B.m S.r) i' k'
      rcases one i' k' h1 h3 with q | ⟨rfl, rfl⟩
      · exact (h.pr i' k' h1 hk' q).grow (by omega) grow (by omega) hk'
      · have hL' := lds_of hok2.ho hok2.l
        have hL2 : Lds o (B.m + 1) (updL B.L B.m S.r) := hL'
        refine pair_std hL2 (by omega) (by omega) (s := s) (by rw [grow i' hi, grow k' hk]; exact hsp) ?_
        rw [lmL_same (grow i' hi), lmL_same (grow k' hk), ← redAll_all regG hS]
        refine (lo1.grow (by omega) grow).sum ?_
        have hmem : ldL o S.r ∈ S.r := ldL_mem h0
        have hr := (redAll_ok hS).1.r.1
        have := Lo.one (o := o) (n := B.m + 1) (L := updL B.L B.m S.r) (δ := M.lcm (lmL o B.L i') (lmL o B.L k')) 1 (m := ⟨0, 0, 0, 0⟩) (j := B.m) (by omega) ⟨by decide, by decide, by decide, by decide⟩ (by
          have e0 : M.sum ⟨0, 0, 0, 0⟩ (lmL o (updL B.L B.m S.r) B.m) = (ldL o S.r).m := by
            unfold lmL
            rw [updL_eq]
            unfold M.sum
            refine M.eta4 ?_ ?_ ?_ ?_ <;> (simp only; omega)
          rw [e0]
          exact rkW_klt hL.ho (hr.2 _ hmem).1 k1 (lo2 _ hmem))
        rw [Lq.sc_one, mo_zero, updL_eq] at this
        exact this
theorem grun_inv {o : Int} {g : Nat} {L0 : Nat → List T} : ∀ (f : Nat) (B : Bs) (j : Nat), Mk o g L0 B j → ∀ B' d, grun o g f B j = (B', d) → ∃ j', Mk o g L0 B' j' ∧ (d = true → tri B'.m ≤ j')
  | 0, B, j, h, B', d, e => by
    unfold grun at e
    cases e
    exact ⟨j, h, fun q => of_decide_eq_true q⟩
  | f + 1, B, j, h, B', d, e => by
    unfold grun at e
    split at e
    · rename_i hj
      split at e
      · cases e; exact ⟨j, h, fun q => by cases q⟩
      · rename_i B2 hs
        exact grun_inv f B2 (j + 1) (h.step hj hs) B' d e
    · cases e
      exact ⟨j, h, fun _ => by omega⟩
theorem sumN_one (f : Nat → Lq) (i : Nat) : ∀ n, i < n → (∀ j, j < n → j ≠ i → f j = Lq.nil) → Lq.sumN f n = f i
  | 0, h, _ => by omega
  | n + 1, h, h0 => by
    show Lq.sum (Lq.sumN f n) (f n) = f i
    by_cases e : i = n
    · subst e
      have : Lq.sumN f i = Lq.sumN (fun _ => Lq.nil) i := Lq.sumN_congr fun j hj => h0 j (by omega) (by omega)
      rw [this, sumN_nils, nil_sum]
    · rw [sumN_one f i n (by omega) (fun j hj => h0 j (by omega)), h0 n (by omega) (fun q => e q.symm), Lq.sum_nil]
theorem one_qsum {n : Nat} {L : Nat → List T} {i : Nat} (hi : i < n) : qsum regG n L (oneP i) = Rp regG (L i) := by
  unfold qsum
  rw [sumN_one _ i n hi (fun j hj hne => by
    unfold oneP
    rw [if_neg hne, Rp_nil, Lq.nil_mul])]
  unfold oneP
  rw [if_pos rfl, Rp_one, Lq.sc_mul, mo_zero]
  exact Lq.sc_one _
theorem Mk.start {o : Int} {n : Nat} {L : Nat → List T} (ho : 1 ≤ o ∧ o ≤ 3) (hl : lstOk n (lN L) (fN L) = true) : Mk o n L (grb0 n L) 0 :=
  ⟨grb0_ok ho hl, Nat.le_refl _, fun _ _ => rfl, fun i hi => one_qsum hi, fun i k _ _ h => by omega⟩
/-- what GrbMake makes. -/
theorem grbMake_mk {o : Int} {n : Nat} {L : Nat → List T} {fuel : Int} {B : Bs} {d : Bool} (h : grbMake o n L fuel = (B, d)) : (B.m = 0 ∧ d = false ∧ ¬ ((1 ≤ o ∧ o ≤ 3) ∧ lstOk n (lN L) (fN L) = true ∧ (1 ≤ n ∧ n ≤ 3) ∧ (0 ≤ fuel ∧ fuel ≤ 60))) ∨ (((1 ≤ o ∧ o ≤ 3) ∧ lstOk n (lN L) (fN L) = true ∧ (1 ≤ n ∧ n ≤ 3) ∧ (0 ≤ fuel ∧ fuel ≤ 60)) ∧ ∃ j, Mk o n L B j ∧ (d = true → tri B.m ≤ j)) := by
  unfold grbMake at h
  split at h
  · rename_i hc
    exact .inr ⟨hc, grun_inv fuel.toNat _ 0 (Mk.start hc.1 hc.2.1) B d h⟩
  · rename_i hc
    cases h
    exact .inl ⟨rfl, rfl, hc⟩
end Go.Proofs.Ytbkighpmkadmmaa
namespace Go.Proofs.Ytbkighpmkadmmaa
open Go.RowKit
set_option linter.unusedVariables false

end Go.Proofs.Ytbkighpmkadmmaa
