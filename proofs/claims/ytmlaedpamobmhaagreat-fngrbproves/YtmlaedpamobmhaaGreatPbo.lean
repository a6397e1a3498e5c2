/-
  What is true of a division: what is taken and what is left is all; nothing is greater; what is left is free, and is left again; so many times an operator.
  Lists of operators as lists; whether two are the same (laws.heList).
  An order, an operator and others are drawn; RedAll of them as lists.
-/
import Derived.Test.YtmlaedpamobmhaaGreatPbh
import Derived.Test.YtmlaedpamobmhaaGreatPaz
import Derived.Test.YtmlaedpamobmhaaGreatPbg
import Derived.Test.YtmlaedpamobmhaaGreatPaq
import Derived.Test.YtmlaedpamobmhaaGreatPbf
import Derived.Test.YtmlaedpamobmhaaGreatPbm
import Derived.Test.YtmlaedpamobmhaaGreatPbn
namespace Go.Proofs.YtmlaedpamobmhaaGreat
open Go.RowKit Go.Deep Go.Joins
set_option linter.unusedVariables false

/-- lists of operators, by their places. -/
abbrev fN (L : Nat → List T) : Nat → Nat → T := fun i => lf (L i)
abbrev lN (L : Nat → List T) : Nat → Nat := fun i => (L i).length
theorem mulM1_wm {t : T} {B Y : List T} (ht : okL [t] = true) (hB : okL B = true) (h : mulM (lf [t]) (lf B) B.length 1 = some Y) : wmV [t] B = (Y, true) := by
  unfold wmV wylMul
  rw [if_pos ⟨ht, hB⟩]
  show mulO (mulM (lf [t]) (lf B) B.length 1) = _
  rw [h]; rfl
/-- what stands in a sum. -/
theorem mem_add {A B : List T} (hA : Falls A) (hB : Falls B) {s : T} (hs : s ∈ addL A B) : (∃ a ∈ A, a.m = s.m) ∨ (∃ b ∈ B, b.m = s.m) := by
  obtain ⟨hf, hc⟩ := addL_facts hA hB
  have h1 := (mem_coefV hf hs).2
  rw [hc] at h1
  by_cases ha : coef A s.m = 0
  · by_cases hb : coef B s.m = 0
    · rw [ha, hb] at h1; exact absurd rfl h1
    · obtain ⟨b, h2, h3⟩ := List.mem_map.1 (coef_mem hb)
      exact .inr ⟨b, h2, h3⟩
  · obtain ⟨a, h2, h3⟩ := List.mem_map.1 (coef_mem ha)
    exact .inl ⟨a, h2, h3⟩
theorem mem_sc {c : Int} {A : List T} {s : T} (hs : s ∈ scL c A) : ∃ a ∈ A, a.m = s.m := by
  rw [scL_map] at hs
  obtain ⟨a, h1, rfl⟩ := List.mem_map.1 hs
  exact ⟨a, h1, rfl⟩
theorem mem_sub {A B : List T} (hA : Falls A) (hB : Falls B) {s : T} (hs : s ∈ subL A B) : (∃ a ∈ A, a.m = s.m) ∨ (∃ b ∈ B, b.m = s.m) := by
  rcases mem_add hA (scL_falls (by omega) (by omega) hB) hs with h | ⟨b, h1, h2⟩
  · exact .inl h
  · obtain ⟨a, h3, h4⟩ := mem_sc h1
    exact .inr ⟨a, h3, h4.trans h2⟩
/-- how a step goes. -/
theorem dvStep_cases {o : Int} {n : Nat} {L : Nat → List T} (hl : lstOk n (lN L) (fN L) = true) {S S' : Dv} (hp : okL S.p = true) (h0 : S.p.length ≠ 0) (hs : dvStep o n (lN L) (fN L) S = some S') :
    (∃ k Y, k < n ∧ M.dvd (ldL o (L k)).m (ldL o S.p).m = true ∧ okL [overT (ldL o S.p) (ldL o (L k))] = true ∧ wmV [overT (ldL o S.p) (ldL o (L k))] (L k) = (Y, true) ∧ (subL S.p Y).length ≤ 400 ∧ S' = ⟨subL S.p Y, updQ S.q k (addL (S.q k) [overT (ldL o S.p) (ldL o (L k))]), S.r⟩) ∨
    ((∀ i, i < n → M.dvd (ldL o (L i)).m (ldL o S.p).m = false) ∧ S' = dvLeave o S) := by
  unfold dvStep at hs
  split at hs
  · rename_i hk
    have hf := dvK_facts hk
    have hg := dvT_good hl hp h0 hk
    generalize (dvK o n (lN L) (fN L) (ldL o S.p).m).toNat = k at hs hf hg
    unfold dvTake at hs
    split at hs
    · cases hs
    · rename_i Y hY
      split at hs
      · rename_i hle
        cases hs
        have ho := one_ok hg
        exact .inl ⟨k, Y, hf.1, hf.2, ho, mulM1_wm ho ((lstOk_all hl).2 k hf.1).2 hY, hle, rfl⟩
      · cases hs
  · rename_i hk
    cases hs
    refine .inr ⟨fun i hi => ?_, rfl⟩
    cases hd : M.dvd (ldL o (L i)).m (ldL o S.p).m
    · rfl
    · exact absurd (idx_iff.2 ⟨i, hi, hd⟩) hk
/-- whatever a step keeps, a division keeps. -/
theorem dvRun_keeps {o : Int} {n : Nat} {L : Nat → List T} (hl : lstOk n (lN L) (fN L) = true) (I : Dv → Prop) (hI : ∀ u S S', DvOk u S → S.p.length ≠ 0 → I S → dvStep o n (lN L) (fN L) S = some S' → I S') :
    ∀ {v u : Nat} {S S' : Dv}, DvOk u S → I S → dvRun o n (lN L) (fN L) v S = some S' → I S'
  | 0, u, S, S', h, hi, hr => by
    unfold dvRun at hr
    split at hr
    · cases hr; exact hi
    · cases hr
  | v + 1, u, S, S', h, hi, hr => by
    by_cases h0 : S.p.length = 0
    · rw [dvRun_done h0] at hr
      cases hr
      exact hi
    · cases hs : dvStep o n (lN L) (fN L) S with
      | none => rw [dvRun_no h0 hs] at hr; cases hr
      | some S1 =>
        rw [dvRun_step h0 hs] at hr
        exact dvRun_keeps hl I hI (dvStep_ok hl h h0 hs) (hI u S S1 h h0 hi hs) hr
theorem redAll_some {o : Int} {p : List T} {n : Nat} {L : Nat → List T} {S : Dv} (h : redAll o p n (lN L) (fN L) = some S) : (1 ≤ o ∧ o ≤ 3) ∧ okL p = true ∧ lstOk n (lN L) (fN L) = true ∧ dvRun o n (lN L) (fN L) 300 (dvOf p) = some S := by
  unfold redAll at h
  split at h
  · rename_i hh
    exact ⟨hh.1, hh.2.1, hh.2.2, h⟩
  · cases h
theorem redAll_keeps {o : Int} {p : List T} {n : Nat} {L : Nat → List T} {S : Dv} (h : redAll o p n (lN L) (fN L) = some S) (I : Dv → Prop) (h0 : I (dvOf p)) (hI : ∀ u S S', DvOk u S → S.p.length ≠ 0 → I S → dvStep o n (lN L) (fN L) S = some S' → I S') : I S := by
  obtain ⟨_, h2, h3, h4⟩ := redAll_some h
  exact dvRun_keeps h3 I hI (DvOk.start h2) h0 h4
theorem redAll_ok {o : Int} {p : List T} {n : Nat} {L : Nat → List T} {S : Dv} (h : redAll o p n (lN L) (fN L) = some S) : DvOk 300 S ∧ S.p = [] := by
  obtain ⟨_, h2, h3, h4⟩ := redAll_some h
  have := dvRun_ok h3 (DvOk.start h2) h4
  exact ⟨by simpa using this.1, this.2⟩
/-! all that is taken, and what is left -/
theorem sumN_upd (F : Nat → Lq) (X : Lq) (k : Nat) : ∀ n, k < n → Lq.sumN (fun i => if i = k then Lq.sum (F i) X else F i) n = Lq.sum (Lq.sumN F n) X
  | 0, h => by omega
  | n + 1, h => by
    rw [Lq.sumN, Lq.sumN]
    by_cases e : k = n
    · subst e
      rw [if_pos rfl, Lq.sumN_congr (g := F) (fun i hi => if_neg (by omega)), Lq.sum_assoc]
    · rw [sumN_upd F X k n (by omega), if_neg (fun h => e h.symm), Lq.sum_assoc, Lq.sum_assoc, Lq.sum_comm X]
def qsum (g : Gen) (n : Nat) (L : Nat → List T) (q : Nat → List T) : Lq := Lq.sumN (fun i => Lq.mul (Rp g (q i)) (Rp g (L i))) n
theorem sumN_nils : ∀ n, Lq.sumN (fun _ => Lq.nil) n = Lq.nil
  | 0 => rfl
  | n + 1 => by rw [Lq.sumN, sumN_nils n, Lq.sum_nil]
theorem qsum_nil (g : Gen) (n : Nat) (L : Nat → List T) : qsum g n L (fun _ => []) = Lq.nil := by
  unfold qsum
  rw [Lq.sumN_congr (g := fun _ => Lq.nil) (fun i _ => by rw [Rp_nil, Lq.nil_mul]), sumN_nils]
theorem qsum_upd (g : Gen) {n : Nat} {L q : Nat → List T} {k : Nat} {t : T} (hk : k < n) (hq : Falls (q k)) (ht : okL [t] = true) : qsum g n L (updQ q k (addL (q k) [t])) = Lq.sum (qsum g n L q) (Lq.mul (Rp g [t]) (Rp g (L k))) := by
  unfold qsum
  rw [← sumN_upd _ _ k n hk]
  refine Lq.sumN_congr (fun i _ => ?_)
  unfold updQ
  split
  · rename_i e
    subst e
    rw [Rp_add g hq (okL_falls ht).2, Lq.sum_mul]
  · rfl
theorem redAll_all (g : Gen) {o : Int} {p : List T} {n : Nat} {L : Nat → List T} {S : Dv} (h : redAll o p n (lN L) (fN L) = some S) : Lq.sum (qsum g n L S.q) (Rp g S.r) = Rp g p := by
  obtain ⟨_, h2, h3, h4⟩ := redAll_some h
  have key := redAll_keeps h (fun S => Lq.sum (qsum g n L S.q) (Lq.sum (Rp g S.r) (Rp g S.p)) = Rp g p) (by
    show Lq.sum (qsum g n L (fun _ => [])) (Lq.sum (Rp g []) (Rp g p)) = _
    rw [qsum_nil, Rp_nil]
    exact Lq.ext fun u i j => by show (0 : Fq) + (0 + _) = _; grind) (fun u S S' hok h0 hI hs => by
    rw [← hI]
    rcases dvStep_cases h3 hok.p h0 hs with ⟨k, Y, hk, _, ho, hY, _, rfl⟩ | ⟨_, rfl⟩
    · show Lq.sum (qsum g n L (updQ S.q k _)) (Lq.sum (Rp g S.r) (Rp g (subL S.p Y))) = _
      rw [qsum_upd g hk (hok.q k).1 ho, Rp_sub g (okL_falls hok.p).2 (wm_falls hY), Rp_mul g hY]
      exact Lq.ext fun u i j => by
        show _ + _ + (_ + (_ + zz 100 * _)) = _ + (_ + _)
        have e : zz 100 = 100 := rfl
        rw [e]
        grind
    · show Lq.sum (qsum g n L S.q) (Lq.sum (Rp g (addL S.r [ldL o S.p])) (Rp g (subL S.p [ldL o S.p]))) = _
      have f1 := fallsOne (ldL_good (o := o) (okL_falls hok.p).2 h0)
      rw [Rp_add g hok.r.1 f1, Rp_sub g (okL_falls hok.p).2 f1]
      exact Lq.ext fun u i j => by
        show _ + (_ + _ + (_ + zz 100 * _)) = _ + (_ + _)
        have e : zz 100 = 100 := rfl
        rw [e]
        grind)
  have hp := (redAll_ok h).2
  rw [hp, Rp_nil, Lq.sum_nil] at key
  exact key
/-! what is left is free -/
theorem red_free {o : Int} {p : List T} {n : Nat} {L : Nat → List T} {S : Dv} (h : redAll o p n (lN L) (fN L) = some S) : ∀ t ∈ S.r, ∀ i, i < n → M.dvd (ldL o (L i)).m t.m = false := by
  obtain ⟨_, h2, h3, h4⟩ := redAll_some h
  refine redAll_keeps h (fun S => ∀ t ∈ S.r, ∀ i, i < n → M.dvd (ldL o (L i)).m t.m = false) (fun t ht => by cases ht) (fun u S S' hok h0 hI hs => ?_)
  rcases dvStep_cases h3 hok.p h0 hs with ⟨k, Y, _, _, _, _, _, rfl⟩ | ⟨hno, rfl⟩
  · exact hI
  · intro t ht i hi
    rcases mem_add hok.r.1 (fallsOne (ldL_good (o := o) (okL_falls hok.p).2 h0)) ht with ⟨a, ha, e⟩ | ⟨b, hb, e⟩
    · rw [← e]; exact hI a ha i hi
    · rw [← e, List.mem_singleton.1 hb]; exact hno i hi
/-! nothing is greater -/
theorem over_sum {t l : T} (hd : M.dvd l.m t.m = true) : (overT t l).m.sum l.m = t.m := by
  have h := sum_over hd
  unfold M.mul at h
  split at h
  · exact congrArg Prod.fst h
  · exact absurd (congrArg Prod.snd h) (by simp)
theorem prod_top {o : Int} (ho : 1 ≤ o ∧ o ≤ 3) {t : T} {B Y : List T} (hB : okL B = true) (hB0 : B.length ≠ 0) (h : wmV [t] B = (Y, true)) : ∀ s ∈ Y, rkW o s.m ≤ rkW o t.m + rkW o (ldL o B).m := fun s hs => by
  have := (lead_prod (rkW_wt o) rkW_inj h (List.mem_singleton.2 rfl) (ldL_mem (o := o) hB0) (fun a ha => by rw [List.mem_singleton.1 ha]; exact Int.le_refl _) (ldL_top ho hB hB0)).2 s hs
  rw [(rkW_wt o t.m (ldL o B).m 0 0).2] at this
  exact this
theorem red_lead {o : Int} {p : List T} {n : Nat} {L : Nat → List T} {S : Dv} (h : redAll o p n (lN L) (fN L) = some S) {N : Int} (hN : ∀ t ∈ p, rkW o t.m ≤ N) : (∀ t ∈ S.r, rkW o t.m ≤ N) ∧ ∀ i, i < n → ∀ s ∈ S.q i, (s.m.sum (ldL o (L i)).m).ok = true ∧ rkW o (s.m.sum (ldL o (L i)).m) ≤ N := by
  obtain ⟨h1, h2, h3, h4⟩ := redAll_some h
  have key := redAll_keeps h (fun S => (∀ t ∈ S.p, rkW o t.m ≤ N) ∧ (∀ t ∈ S.r, rkW o t.m ≤ N) ∧ ∀ i, i < n → ∀ s ∈ S.q i, (s.m.sum (ldL o (L i)).m).ok = true ∧ rkW o (s.m.sum (ldL o (L i)).m) ≤ N) ⟨hN, ⟨fun t ht => absurd ht (List.not_mem_nil), fun i _ s hs => absurd hs (List.not_mem_nil)⟩⟩ (fun u S S' hok h0 hI hs => by
    obtain ⟨i1, i2, i3⟩ := hI
    have hl := ldL_mem (o := o) h0
    have hg := ldL_good (o := o) (okL_falls hok.p).2 h0
    rcases dvStep_cases h3 hok.p h0 hs with ⟨k, Y, hk, hd, ho, hY, _, rfl⟩ | ⟨hno, rfl⟩
    · have hk2 := (lstOk_all h3).2 k hk
      have htop := prod_top h1 hk2.2 hk2.1 hY
      have hsum := over_sum hd
      have hw := (rkW_wt o (overT (ldL o S.p) (ldL o (L k))).m (ldL o (L k)).m 0 0).2
      rw [hsum] at hw
      refine ⟨fun t ht => ?_, i2, fun i hi s hs => ?_⟩
      · rcases mem_sub (okL_falls hok.p).2 (wm_falls hY) ht with ⟨a, ha, e⟩ | ⟨b, hb, e⟩
        · rw [← e]; exact i1 a ha
        · rw [← e]
          have := htop b hb
          have := i1 _ hl
          omega
      · change s ∈ updQ S.q k _ i at hs
        unfold updQ at hs
        split at hs
        · rename_i e
          subst e
          rcases mem_add (hok.q i).1 (okL_falls ho).2 hs with ⟨a, ha, e⟩ | ⟨b, hb, e⟩
          · rw [← e]; exact i3 i hi a ha
          · rw [← e, List.mem_singleton.1 hb, hsum]
            exact ⟨hg.1, i1 _ hl⟩
        · exact i3 i hi s hs
    · refine ⟨fun t ht => ?_, fun t ht => ?_, i3⟩
      · rcases mem_sub (okL_falls hok.p).2 (fallsOne hg) ht with ⟨a, ha, e⟩ | ⟨b, hb, e⟩
        · rw [← e]; exact i1 a ha
        · rw [← e, List.mem_singleton.1 hb]; exact i1 _ hl
      · rcases mem_add hok.r.1 (fallsOne hg) ht with ⟨a, ha, e⟩ | ⟨b, hb, e⟩
        · rw [← e]; exact i2 a ha
        · rw [← e, List.mem_singleton.1 hb]; exact i1 _ hl)
  exact ⟨key.2.1, key.2.2⟩
/-! who is free is left -/
/-! so many times an operator -/
theorem lf_sc (c : Int) (L : List T) {i : Nat} (h : i < L.length) : lf (scL c L) i = scT1 c (lf L i) := by
  have h2 : i < (scL c L).length := by rw [scL_len]; exact h
  rw [lf_eq h2, lf_eq h]
  simp only [scL_map, List.getElem_map]
  rfl
end Go.Proofs.YtmlaedpamobmhaaGreat
namespace Go.Proofs.YtmlaedpamobmhaaGreat
open Go.RowKit Go.Deep Go.Joins
set_option linter.unusedVariables false

end Go.Proofs.YtmlaedpamobmhaaGreat
namespace Go.Proofs.YtmlaedpamobmhaaGreat
open Go.RowKit Go.Deep Go.Joins
set_option linter.unusedVariables false

end Go.Proofs.YtmlaedpamobmhaaGreat
