/-
  A sum of products of two lists: the mathematics, and the model's RedSum.
  What is true of a division: what is taken and what is left is all; nothing is greater; what is left is free, and is left again; so many times an operator.
  Lists of operators as lists; whether two are the same (laws.heList).
-/
import Derived.Test.YtbkighpmkadmmaaHah
import Derived.Test.YtbkighpmkadmmaaHbb
import Derived.Test.YtbkighpmkadmmaaHbf
import Derived.Test.YtbkighpmkadmmaaHbc
import Derived.Test.YtbkighpmkadmmaaHau
namespace Go.Proofs.Ytbkighpmkadmmaa
open Go.RowKit Go.Deep Go.Joins
set_option linter.unusedVariables false

end Go.Proofs.Ytbkighpmkadmmaa
namespace Go.Proofs.Ytbkighpmkadmmaa
open Go.RowKit Go.Deep Go.Joins
set_option linter.unusedVariables false

/-- lists of operators, by their places. -/
abbrev fN (L : Nat → List T) : Nat → Nat → T := fun i => lf (L i)
abbrev lN (L : Nat → List T) : Nat → Nat := fun i => (L i).length
theorem mulM1_wm {t : T} {B Y : List T} (ht : okL [t] = true) (hB : okL B = true) (h : mulM (lf [t]) (lf B) B.length 1 = some Y) : wmV [t] B = (Y, true) := by
  unfold wmV wylMul
  rw [if_pos ⟨ht, hB⟩]
  show mulO (mulM (lf [t]) (lf B) B.length 1) = _
  rw [h]; rfl
/-- what stands in a sum. -/
theorem mem_add {A B : List T} (hA : Falls A) (hB : Falls B) {s : T} (hs : s ∈ addL A B) : (∃ a ∈ A, a.m = s.m) ∨ (∃ b ∈ B, b.m = s.m) := by
  obtain ⟨hf, hc⟩ := addL_facts hA hB
  have h1 := (mem_coefV hf hs).2
  rw [hc] at h1
  by_cases ha : coef A s.m = 0
  · by_cases hb : coef B s.m = 0
    · rw [ha, hb] at h1; exact absurd rfl h1
    · obtain ⟨b, h2, h3⟩ := List.mem_map.1 (coef_mem hb)
      exact .inr ⟨b, h2, h3⟩
  · obtain ⟨a, h2, h3⟩ := List.mem_map.1 (coef_mem ha)
    exact .inl ⟨a, h2, h3⟩
theorem mem_sc {c : Int} {A : List T} {s : T} (hs : s ∈ scL c A) : ∃ a ∈ A, a.m = s.m := by
  rw [scL_map] at hs
  obtain ⟨a, h1, rfl⟩ := List.mem_map.1 hs
  exact ⟨a, h1, rfl⟩
theorem mem_sub {A B : List T} (hA : Falls A) (hB : Falls B) {s : T} (hs : s ∈ subL A B) : (∃ a ∈ A, a.m = s.m) ∨ (∃ b ∈ B, b.m = s.m) := by
  rcases mem_add hA (scL_falls (by omega) (by omega) hB) hs with h | ⟨b, h1, h2⟩
  · exact .inl h
  · obtain ⟨a, h3, h4⟩ := mem_sc h1
    exact .inr ⟨a, h3, h4.trans h2⟩
/-- how a step goes. -/
theorem dvStep_cases {o : Int} {n : Nat} {L : Nat → List T} (hl : lstOk n (lN L) (fN L) = true) {S S' : Dv} (hp : okL S.p = true) (h0 : S.p.length ≠ 0) (hs : dvStep o n (lN L) (fN L) S = some S') :
    (∃ k Y, k < n ∧ M.dvd (ldL o (L k)).m (ldL o S.p).m = true ∧ okL [overT (ldL o S.p) (ldL o (L k))] = true ∧ wmV [overT (ldL o S.p) (ldL o (L k))] (L k) = (Y, true) ∧ (subL S.p Y).length ≤ 400 ∧ S' = ⟨subL S.p Y, updQ S.q k (addL (S.q k) [overT (ldL o S.p) (ldL o (L k))]), S.r⟩) ∨
    ((∀ i, i < n → M.dvd (ldL o (L i)).m (ldL o S.p).m = false) ∧ S' = dvLeave o S) := by
  unfold dvStep at hs
  split at hs
  · rename_i hk
    have hf := dvK_facts hk
    have hg := dvT_good hl hp h0 hk
    generalize (dvK o n (lN L) (fN L) (ldL o S.p).m).toNat = k at hs hf hg
    unfold dvTake at hs
    split at hs
    · cases hs
    · rename_i Y hY
      split at hs
      · rename_i hle
        cases hs
        have ho := one_ok hg
        exact .inl ⟨k, Y, hf.1, hf.2, ho, mulM1_wm ho ((lstOk_all hl).2 k hf.1).2 hY, hle, rfl⟩
      · cases hs
  · rename_i hk
    cases hs
    refine .inr ⟨fun i hi => ?_, rfl⟩
    cases hd : M.dvd (ldL o (L i)).m (ldL o S.p).m
    · rfl
    · exact absurd (idx_iff.2 ⟨i, hi, hd⟩) hk
/-- whatever a step keeps, a division keeps. -/
theorem dvRun_keeps {o : Int} {n : Nat} {L : Nat → List T} (hl : lstOk n (lN L) (fN L) = true) (I : Dv → Prop) (hI : ∀ u S S', DvOk u S → S.p.length ≠ 0 → I S → dvStep o n (lN L) (fN L) S = some S' → I S') :
    ∀ {v u : Nat} {S S' : Dv}, DvOk u S → I S → dvRun o n (lN L) (fN L) v S = some S' → I S'
  | 0, u, S, S', h, hi, hr => by
    unfold dvRun at hr
    split at hr
    · cases hr; exact hi
    · cases hr
  | v + 1, u, S, S', h, hi, hr => by
    by_cases h0 : S.p.length = 0
    · rw [dvRun_done h0] at hr
      cases hr
      exact hi
    · cases hs : dvStep o n (lN L) (fN L) S with
      | none => rw [dvRun_no h0 hs] at hr; cases hr
      | some S1 =>
        rw [dvRun_step h0 hs] at hr
        exact dvRun_keeps hl I hI (dvStep_ok hl h h0 hs) (hI u S S1 h h0 hi hs) hr
theorem redAll_some {o : Int} {p : List T} {n : Nat} {L : Nat → List T} {S : Dv} (h : redAll o p n (lN L) (fN L) = some S) : (1 ≤ o ∧ o ≤ 3) ∧ okL p = true ∧ lstOk n (lN L) (fN L) = true ∧ dvRun o n (lN L) (fN L) 300 (dvOf p) = some S := by
  unfold redAll at h
  split at h
  · rename_i hh
    exact ⟨hh.1, hh.2.1, hh.2.2, h⟩
  · cases h
theorem redAll_keeps {o : Int} {p : List T} {n : Nat} {L : Nat → List T} {S : Dv} (h : redAll o p n (lN L) (fN L) = some S) (I : Dv → Prop) (h0 : I (dvOf p)) (hI : ∀ u S S', DvOk u S → S.p.length ≠ 0 → I S → dvStep o n (lN L) (fN L) S = some S' → I S') : I S := by
  obtain ⟨_, h2, h3, h4⟩ := redAll_some h
  exact dvRun_keeps h3 I hI (DvOk.start h2) h0 h4
theorem redAll_ok {o : Int} {p : List T} {n : Nat} {L : Nat → List T} {S : Dv} (h : redAll o p n (lN L) (fN L) = some S) : DvOk 300 S ∧ S.p = [] := by
  obtain ⟨_, h2, h3, h4⟩ := redAll_some h
  have := dvRun_ok h3 (DvOk.start h2) h4
  exact ⟨by simpa using this.1, this.2⟩
/-! all that is taken, and what is left -/
theorem sumN_upd (F : Nat → Lq) (X : Lq) (k : Nat) : ∀ n, k < n → Lq.sumN (fun i => if i = k then Lq.sum (F i) X else F i) n = Lq.sum (Lq.sumN F n) X
  | 0, h => by omega
  | n + 1, h => by
    rw [Lq.sumN, Lq.sumN]
    by_cases e : k = n
    · subst e
      rw [if_pos rfl, Lq.sumN_congr (g := F) (fun i hi => if_neg (by omega)), Lq.sum_assoc]
    · rw [sumN_upd F X k n (by omega), if_neg (fun h => e h.symm), Lq.sum_assoc, Lq.sum_assoc, Lq.sum_comm X]
def qsum (g : Gen) (n : Nat) (L : Nat → List T) (q : Nat → List T) : Lq := Lq.sumN (fun i => Lq.mul (Rp g (q i)) (Rp g (L i))) n
theorem sumN_nils : ∀ n, Lq.sumN (fun _ => Lq.nil) n = Lq.nil
  | 0 => rfl
  | n + 1 => by rw [Lq.sumN, sumN_nils n, Lq.sum_nil]
theorem qsum_nil (g : Gen) (n : Nat) (L : Nat → List T) : qsum g n L (fun _ => []) = Lq.nil := by
  unfold qsum
  rw [Lq.sumN_congr (g := fun _ => Lq.nil) (fun i _ => by rw [Rp_nil, Lq.nil_mul]), sumN_nils]
theorem qsum_upd (g : Gen) {n : Nat} {L q : Nat → List T} {k : Nat} {t : T} (hk : k < n) (hq : Falls (q k)) (ht : okL [t] = true) : qsum g n L (updQ q k (addL (q k) [t])) = Lq.sum (qsum g n L q) (Lq.mul (Rp g [t]) (Rp g (L k))) := by
  unfold qsum
  rw [← sumN_upd _ _ k n hk]
  refine Lq.sumN_congr (fun i _ => ?_)
  unfold updQ
  split
  · rename_i e
    subst e
    rw [Rp_add g hq (okL_falls ht).2, Lq.sum_mul]
  · rfl
theorem redAll_all (g : Gen) {o : Int} {p : List T} {n : Nat} {L : Nat → List T} {S : Dv} (h : redAll o p n (lN L) (fN L) = some S) : Lq.sum (qsum g n L S.q) (Rp g S.r) = Rp g p := by
  obtain ⟨_, h2, h3, h4⟩ := redAll_some h
  have key := redAll_keeps h (fun S => Lq.sum (qsum g n L S.q) (Lq.sum (Rp g S.r) (Rp g S.p)) = Rp g p) (by
    show Lq.sum (qsum g n L (fun _ => [])) (Lq.sum (Rp g []) (Rp g p)) = _
    rw [qsum_nil, Rp_nil]
    exact Lq.ext fun u i j => by show (0 : Fq) + (0 + _) = _; grind) (fun u S S' hok h0 hI hs => by
    rw [← hI]
    rcases dvStep_cases h3 hok.p h0 hs with ⟨k, Y, hk, _, ho, hY, _, rfl⟩ | ⟨_, rfl⟩
    · show Lq.sum (qsum g n L (updQ S.q k _)) (Lq.sum (Rp g S.r) (Rp g (subL S.p Y))) = _
      rw [qsum_upd g hk (hok.q k).1 ho, Rp_sub g (okL_falls hok.p).2 (wm_falls hY), Rp_mul g hY]
      exact Lq.ext fun u i j => by
        show _ + _ + (_ + (_ + zz 100 * _)) = _ + (_ + _)
        have e : zz 100 = 100 := rfl
        rw [e]
        grind
    · show Lq.sum (qsum g n L S.q) (Lq.sum (Rp g (addL S.r [ldL o S.p])) (Rp g (subL S.p [ldL o S.p]))) = _
      have f1 := fallsOne (ldL_good (o := o) (okL_falls hok.p).2 h0)
      rw [Rp_add g hok.r.1 f1, Rp_sub g (okL_falls hok.p).2 f1]
      exact Lq.ext fun u i j => by
        show _ + (_ + _ + (_ + zz 100 * _)) = _ + (_ + _)
        have e : zz 100 = 100 := rfl
        rw [e]
        grind)
  have hp := (redAll_ok h).2
  rw [hp, Rp_nil, Lq.sum_nil] at key
  exact key
/-! what is left is free -/
/-! nothing is greater -/
theorem over_sum {t l : T} (hd : M.dvd l.m t.m = true) : (overT t l).m.sum l.m = t.m := by
  have h := sum_over hd
  unfold M.mul at h
  split at h
  · exact congrArg Prod.fst h
  · exact absurd (congrArg Prod.snd h) (by simp)
theorem prod_top {o : Int} (ho : 1 ≤ o ∧ o ≤ 3) {t : T} {B Y : List T} (hB : okL B = true) (hB0 : B.length ≠ 0) (h : wmV [t] B = (Y, true)) : ∀ s ∈ Y, rkW o s.m ≤ rkW o t.m + rkW o (ldL o B).m := fun s hs => by
  have := (lead_prod (rkW_wt o) rkW_inj h (List.mem_singleton.2 rfl) (ldL_mem (o := o) hB0) (fun a ha => by rw [List.mem_singleton.1 ha]; exact Int.le_refl _) (ldL_top ho hB hB0)).2 s hs
  rw [(rkW_wt o t.m (ldL o B).m 0 0).2] at this
  exact this
theorem red_lead {o : Int} {p : List T} {n : Nat} {L : Nat → List T} {S : Dv} (h : redAll o p n (lN L) (fN L) = some S) {N : Int} (hN : ∀ t ∈ p, rkW o t.m ≤ N) : (∀ t ∈ S.r, rkW o t.m ≤ N) ∧ ∀ i, i < n → ∀ s ∈ S.q i, (s.m.sum (ldL o (L i)).m).ok = true ∧ rkW o (s.m.sum (ldL o (L i)).m) ≤ N := by
  obtain ⟨h1, h2, h3, h4⟩ := redAll_some h
  have key := redAll_keeps h (fun S => (∀ t ∈ S.p, rkW o t.m ≤ N) ∧ (∀ t ∈ S.r, rkW o t.m ≤ N) ∧ ∀ i, i < n → ∀ s ∈ S.q i, (s.m.sum (ldL o (L i)).m).ok = true ∧ rkW o (s.m.sum (ldL o (L i)).m) ≤ N) ⟨hN, ⟨fun t ht => absurd ht (List.not_mem_nil), fun i _ s hs => absurd hs (List.not_mem_nil)⟩⟩ (fun u S S' hok h0 hI hs => by
    obtain ⟨i1, i2, i3⟩ := hI
    have hl := ldL_mem (o := o) h0
    have hg := ldL_good (o := o) (okL_falls hok.p).2 h0
    rcases dvStep_cases h3 hok.p h0 hs with ⟨k, Y, hk, hd, ho, hY, _, rfl⟩ | ⟨hno, rfl⟩
    · have hk2 := (lstOk_all h3).2 k hk
      have htop := prod_top h1 hk2.2 hk2.1 hY
      have hsum := over_sum hd
      have hw := (rkW_wt o (overT (ldL o S.p) (ldL o (L k))).m (ldL o (L k)).m 0 0).2
      rw [hsum] at hw
      refine ⟨fun t ht => ?_, i2, fun i hi s hs => ?_⟩
      · rcases mem_sub (okL_falls hok.p).2 (wm_falls hY) ht with ⟨a, ha, e⟩ | ⟨b, hb, e⟩
        · rw [← e]; exact i1 a ha
        · rw [← e]
          have := htop b hb
          have := i1 _ hl
          omega
      · change s ∈ updQ S.q k _ i at hs
        unfold updQ at hs
        split at hs
        · rename_i e
          subst e
          rcases mem_add (hok.q i).1 (okL_falls ho).2 hs with ⟨a, ha, e⟩ | ⟨b, hb, e⟩
          · rw [← e]; exact i3 i hi a ha
          · rw [← e, List.mem_singleton.1 hb, hsum]
            exact ⟨hg.1, i1 _ hl⟩
        · exact i3 i hi s hs
    · refine ⟨fun t ht => ?_, fun t ht => ?_, i3⟩
      · rcases mem_sub (okL_falls hok.p).2 (fallsOne hg) ht with ⟨a, ha, e⟩ | ⟨b, hb, e⟩
        · rw [← e]; exact i1 a ha
        · rw [← e, List.mem_singleton.1 hb]; exact i1 _ hl
      · rcases mem_add hok.r.1 (fallsOne hg) ht with ⟨a, ha, e⟩ | ⟨b, hb, e⟩
        · rw [← e]; exact i2 a ha
        · rw [← e, List.mem_singleton.1 hb]; exact i1 _ hl)
  exact ⟨key.2.1, key.2.2⟩
/-! who is free is left -/
/-! so many times an operator -/
theorem lf_sc (c : Int) (L : List T) {i : Nat} (h : i < L.length) : lf (scL c L) i = scT1 c (lf L i) := by
  have h2 : i < (scL c L).length := by rw [scL_len]; exact h
  rw [lf_eq h2, lf_eq h]
  simp only [scL_map, List.getElem_map]
  rfl
end Go.Proofs.Ytbkighpmkadmmaa
namespace Go.Proofs.Ytbkighpmkadmmaa
open Go.RowKit Go.Deep Go.Joins
set_option linter.unusedVariables false

def lsq (n : Nat) (L : Nat → List T) (n' : Nat) (L' : Nat → List T) : Bool := decide (n = n' ∧ ∀ i, i < n → sq (L i) (L' i) = true)
theorem lsq_same (n : Nat) (L : Nat → List T) : lsq n L n L = true := decide_eq_true ⟨rfl, fun i _ => sq_same (L i)⟩
theorem lsq_iff {n : Nat} {L : Nat → List T} {n' : Nat} {L' : Nat → List T} : lsq n L n' L' = true ↔ n = n' ∧ ∀ i, i < n → L i = L' i := by
  unfold lsq
  rw [decide_eq_true_iff]
  exact ⟨fun h => ⟨h.1, fun i hi => sq_iff.1 (h.2 i hi)⟩, fun h => ⟨h.1, fun i hi => sq_iff.2 (h.2 i hi)⟩⟩
theorem lsq_no {n : Nat} {L : Nat → List T} {n' : Nat} {L' : Nat → List T} (h : ¬ (n = n' ∧ ∀ i, i < n → L i = L' i)) : lsq n L n' L' = false := by
  cases e : lsq n L n' L'
  · rfl
  · exact absurd (lsq_iff.1 e) h
set_option maxRecDepth 100000 in
set_option maxHeartbeats 4000000 in
theorem heListT (w : World) (a a' : Option Addr) (n cap n' cap' : Nat) (ad ad' : Nat → Option Addr) (cp cp' : Nat → Nat) (L L' : Nat → List T) (h : RdS w a n cap ad (lN L) cp (fN L)) (h' : RdS w a' n' cap' ad' (lN L') cp' (fN L')) :
    Calls Try.prog 11 #[.slice a n cap, .slice a' n' cap'] w (Val w (.bool (lsq n L n' L'))) := by
  have hn : (n : Int) ≤ 140737488351232 := by have := h.2.1; omega
  have hn' : (n' : Int) ≤ 140737488351232 := by have := h'.2.1; omega
  obtain ⟨r, hr⟩ : ∃ r, lsq n L n' L' = r := ⟨_, rfl⟩
  rw [hr]
  have HR := Hid.mk' hr
  have HH := Hid.mk' h
  have HH' := Hid.mk' h'
  clear h h' hr
  unfold Val
  by_cases hnn : n = n'
  · subst hnn
    have hne : ((n : Int) != (n : Int)) = false := by simp
    go_enter Try.func11, Try.ntmps11
    go_wp2
    go_loopw [5] (fun v wr => ∃ i : Nat, i ≤ n ∧ v = .int .i64 (i : Int) ∧ Below w.heap.size w wr ∧ ∀ j, j < i → L j = L' j) (fun v _ => n - (intOf v).toNat)
    case atStart => exact ⟨0, Nat.zero_le _, rfl, Below.refl _ _, fun j hj => by omega⟩
    case round =>
      obtain ⟨i, hi, rfl, hB, hJ⟩ := hrel
      have HJ := Hid.mk' hJ
      clear hJ
      by_cases hlt : i < n
      · rcases HH.out.2.2.1 with h0 | ⟨b, off, rfl, hblt, hcl⟩
        · omega
        rcases HH'.out.2.2.1 with h0 | ⟨b', off', rfl, hblt', hcl'⟩
        · omega
        have hil : (i : Int) < (n : Int) := by omega
        have hbr : b < wr.heap.size := Nat.lt_of_lt_of_le hblt hB.size
        have hbr' : b' < wr.heap.size := Nat.lt_of_lt_of_le hblt' hB.size
        have ne := Ext.there wr
        obtain ⟨l, hl⟩ : ∃ l, (L i).length = l := ⟨_, rfl⟩
        obtain ⟨l', hl'⟩ : ∃ l', (L' i).length = l' := ⟨_, rfl⟩
        have g0 : wr.cell? ⟨b, off + i, none⟩ = some (.slice (ad i) l (cp i)) := (hB.cell (p := ⟨b, off + i, none⟩) hblt).trans (by rw [← hl]; exact hcl i hlt)
        have g1 : wr.cell? ⟨b', off' + i, none⟩ = some (.slice (ad' i) l' (cp' i)) := (hB.cell (p := ⟨b', off' + i, none⟩) hblt').trans (by rw [← hl']; exact hcl' i hlt)
        have s0 : ∀ u : Ext wr, u.1.cell? ⟨b, off + i, none⟩ = some (.slice (ad i) l (cp i)) := fun u => (u.cell hbr).trans g0
        have s1 : ∀ u : Ext wr, u.1.cell? ⟨b', off' + i, none⟩ = some (.slice (ad' i) l' (cp' i)) := fun u => (u.cell hbr').trans g1
        have HK := Hid.mk' ((HH.out.2.2.2 i hlt).below hB)
        have HK' := Hid.mk' ((HH'.out.2.2.2 i hlt).below hB)
        have HB := Hid.mk' hB
        obtain ⟨q, hq⟩ : ∃ q, sq (L i) (L' i) = q := ⟨_, rfl⟩
        have HQ := Hid.mk' hq
        have hcall : ∀ u : Ext wr, Calls Try.prog 15 #[.slice (ad i) l (cp i), .slice (ad' i) l' (cp' i)] u.1 fun r w' => r = .returned (.bool q) ∧ Below u.1.heap.size u.1 w' := fun u => by
          have := he_L (w := u.1) (a := ad i) (ca := cp i) (L := L i) (b := ad' i) (cb := cp' i) (K := L' i) (HK.out.below u.2) (HK'.out.below u.2)
          rw [hq, hl, hl'] at this
          exact this
        clear hcl hcl' hB g0 g1 hq hl hl'
        go_wp2_with fail
        refine wp_region_ext (by kernel_rfl) (by kernel_rfl) ?_
        repeat (go_big_quiet_step (first | (go_at_call 15; exact ext_grows (hcall _)) | fail))
        refine wpQuiet_nil ?_
        rintro _ ⟨v, rfl⟩
        have HV := Hid.mk' v.2
        clear s0 s1 ne hcall
        cases q
        · have hr : r = false := by
            rw [← HR.out]
            refine lsq_no (fun hh => ?_)
            have h1 := HQ.out
            rw [hh.2 i hlt, sq_same] at h1
            cases h1
          subst hr
          go_wp2
          go_ret
          exact ⟨rfl, bel_next HB.out HV.out⟩
        · have he := sq_iff.1 HQ.out
          have HE := Hid.mk' he
          clear he
          go_wp2
          go_roundw
          case rel => exact ⟨i + 1, by omega, by go_num, bel_next HB.out HV.out, fun j hj => by
            by_cases e : j = i
            · rw [e]; exact HE.out
            · exact HJ.out j (by omega)⟩
          case measure => simp [intOf]; omega
      · have hnl : ¬ (i : Int) < (n : Int) := by omega
        have hr : r = true := by
          rw [← HR.out]
          exact lsq_iff.2 ⟨rfl, fun j hj => HJ.out j (by omega)⟩
        subst hr
        go_wp2
        go_ret
        exact ⟨rfl, hB⟩
  · have hne : ((n : Int) != (n' : Int)) = true := by simp; omega
    have hr : r = false := by
      rw [← HR.out]
      exact lsq_no (fun hh => hnn hh.1)
    subst hr
    go_enter Try.func11, Try.ntmps11
    go_wp2
    go_ret
    exact ⟨rfl, Below.refl _ _⟩
end Go.Proofs.Ytbkighpmkadmmaa
