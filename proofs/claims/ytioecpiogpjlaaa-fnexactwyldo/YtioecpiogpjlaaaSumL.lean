/-
  A sum told as an operator.
-/
import Derived.Test.YtioecpiogpjlaaaKeysOrd
import Derived.Test.YtioecpiogpjlaaaBackS
import Derived.Test.YtioecpiogpjlaaaRegS
import Derived.Test.YtioecpiogpjlaaaMathAdd
import Derived.Maps.OwnIn
namespace Go.Proofs.Ytioecpiogpjlaaa
open Go.RowKit Go.Maps Go.Sort Go.Shelf
set_option linter.unusedVariables false
attribute [local go_sem] Oper.semAt_some

theorem lenIn {F : Fence} {nF : Nat} {H : Type} {P : Program} (w : World) {ops : Array Oper} {rest : List Oper} {o : Oper} {a : Act} {Q : Exit → Act → World → Prop} (hg : o.guard = none) (m : Operand) (t : TypeId) (hop : o.op = Op.call { callee := Callee.builtin Builtin.len, args := #[m], argTypes := #[t] })
    (k e : TypeId) (ht : P.underlying t = some (.map k e)) (R : Value → Option (DataW H × List MemPlace)) (b n : Nat) (D : DataW H) (hm : a.eval m = .map (some b)) (hown : w.ownsMap P k R b n D)
    (hK : wpListIn F nF P ops Q rest (a.put o.dst (.int .i64 (Maps.size D))) w) : wpListIn F nF P ops Q (o :: rest) a w := by
  refine wpListIn_plain hg fun K' hK' => ?_
  unfold Oper.wpIn
  refine ⟨?_, ?_⟩
  · simp [Oper.about, hop, resolve, Target.leads, Sem.run_pure]
  · rw [Oper.semAt_plain F _ _ (by rw [hop]; intro c hc'; cases hc')]
    simp [execOp, hop, resolve, invoke, builtin, hm, hown.len ht o.type, Result.andThen]
    exact hK' _ _ hK
/-- the term of a monomial, by the numbers c. -/
def toT (c : M → Int) (x : BA) : T := ⟨c x.2.1, x.2.1⟩
theorem ownsMap_below {w W : World} {P : Program} {k : TypeId} {R : Value → Option (DataW Unit × List MemPlace)} {b n : Nat} {D : DataW Unit} (h : w.ownsMap P k R b n D) (hb : W.heap[b]? = w.heap[b]?) : W.ownsMap P k R b n D := by
  obtain ⟨es, clock, h1, r⟩ := h
  exact ⟨es, clock, hb.trans h1, r⟩
theorem infoP : (Try.prog.info? 40).map (fun i => (i.zero, i.size, i.bytes)) = some (some (.agg #[.int .i64 0, .int .i64 0, .int .i64 0, .int .i64 0, .int .i64 0]), 5, 40) := by kernel_rfl
theorem coef_map_in (c : M → Int) (m : M) : ∀ ms : List M, m ∈ ms → coef (ms.map fun x => (⟨c x, x⟩ : T)) m = c m
  | [], h => by cases h
  | x :: r, h => by
    simp only [List.map_cons, coef]
    by_cases hx : x = m
    · rw [if_pos (meqB_iff.2 hx), hx]
    · rw [if_neg (fun e => hx (meqB_iff.1 e))]
      exact coef_map_in c m r ((List.mem_cons.1 h).resolve_left (fun e => hx e.symm))
theorem coef_map_out (c : M → Int) (m : M) : ∀ ms : List M, m ∉ ms → coef (ms.map fun x => (⟨c x, x⟩ : T)) m = 0
  | [], _ => rfl
  | x :: r, h => by
    simp only [List.map_cons, coef]
    rw [if_neg (fun e => h (by rw [← meqB_iff.1 e]; exact List.mem_cons_self ..))]
    exact coef_map_out c m r (fun e => h (List.mem_cons_of_mem _ e))
theorem len_keys {α : Type} (key : M → α) (hinj : ∀ a b : M, a.ok = true → b.ok = true → key a = key b → a = b) {K : List T} (hK : Falls K) (ks : List α) (h : ∀ t ∈ K, key t.m ∈ ks) : K.length ≤ ks.length := by
  letI : DecidableEq α := fun a b => Classical.propDecidable (a = b)
  have hnd : (K.map fun t => key t.m).Nodup := by
    rw [List.Nodup, List.pairwise_map]
    refine hK.1.imp_of_mem (S := fun a b => key a.m ≠ key b.m) ?_
    intro a b ha hb h e
    have := hinj _ _ (hK.2 a ha).1 (hK.2 b hb).1 e
    rw [this] at h
    omega
  have := len_of_sub (K.map fun t => key t.m) ks hnd (fun x hx => by
    obtain ⟨t, ht, rfl⟩ := List.mem_map.1 hx
    exact h t ht)
  simpa using this
theorem coef_mem {m : M} : ∀ {L : List T}, coef L m ≠ 0 → m ∈ L.map (·.m)
  | [], h => absurd rfl h
  | t :: r, h => by
    rw [coef] at h
    by_cases ht : meqB t.m m = true
    · simp [meqB_iff.1 ht]
    · rw [if_neg ht] at h
      simpa using Or.inr (by simpa using coef_mem h)
theorem coef_of_mem {L : List T} (hL : Falls L) {t : T} (ht : t ∈ L) : coef L t.m = t.c := by
  induction L with
  | nil => cases ht
  | cons s r ih =>
    rcases List.mem_cons.1 ht with rfl | h
    · exact coef_cons_same _ _
    · have h1 := hL.head t h
      rw [coef_cons_ne (fun e => by rw [e] at h1; omega)]
      exact ih hL.tail h
theorem falls_nodup {L : List T} (hL : Falls L) : (L.map (·.m)).Nodup := by
  rw [List.Nodup, List.pairwise_map]
  exact hL.1.imp (fun h e => by rw [e] at h; omega)
theorem size_K {w : World} {b n : Nat} {D : DataW Unit} {c : M → Int} (hown : w.ownsMap Try.prog 38 (plainElem Try.prog 54) b n D)
    (hat : ∀ m : M, m.ok = true → D.atKey (keyM m) (.lit (.int .i64 0)) = .lit (.int .i64 (c m)) ∧ (Maps.has D (keyM m) = true ↔ c m ≠ 0)) (hks : ∀ kl, Maps.has D kl = true → ∃ m : M, m.ok = true ∧ kl = keyM m)
    {K : List T} (hK : Falls K) (hKc : ∀ m, m.ok = true → coef K m = c m) : Maps.size D = K.length := by
  have h1 : Maps.size D ≤ K.length := by
    have := size_le hown (K.map (·.m)) (fun kl hkl => by
      obtain ⟨m, hm, rfl⟩ := hks kl hkl
      refine ⟨m, coef_mem ?_, rfl⟩
      rw [hKc m hm]
      exact (hat m hm).2.1 hkl)
    simpa using this
  have h2 : K.length ≤ Maps.size D := by
    obtain ⟨es, he, hp⟩ := hown.tidy lawM
    have := len_keys keyM (fun a b ha hb e => keyM_inj ha hb e) hK (es.map (·.1)) (fun t ht => by
      have hto := hK.2 t ht
      have hh : Maps.has D (keyM t.m) = true := (hat t.m hto.1).2.2 (by rw [← hKc t.m hto.1, coef_of_mem hK ht]; omega)
      rw [he, has_eq, List.any_eq_true] at hh
      obtain ⟨p, hpe, hs⟩ := hh
      rw [← WideAt.sameKey_eq hs]
      exact List.mem_map_of_mem hpe)
    rw [he, size_eq]
    simpa using this
  omega
/-- the list that comes is the one that falls with these numbers. -/
theorem list_K {c : M → Int} (hc : ∀ m, 0 ≤ c m ∧ c m ≤ 100) {dO : List OM} (hs : dO.Pairwise (fun a b => rkD a.1 < rkD b.1)) (hm : ∀ m : M, m.ok = true → (m ∈ dO.map (·.1) ↔ c m ≠ 0)) {K : List T} (hK : Falls K) (hKc : ∀ m, m.ok = true → coef K m = c m) : (doneB dO 0).map (toT c) = K := by
  have hcl : ∀ x ∈ doneB dO 0, x.2 ∈ dO := fun x hx => by
    unfold doneB at hx
    obtain ⟨j, hj, rfl⟩ := List.mem_map.1 hx
    rw [List.mem_range] at hj
    have hi : dO.length - 1 - j < dO.length := by omega
    show dO.getD (dO.length - 1 - j) default ∈ dO
    rw [List.getD_eq_getElem?_getD, List.getElem?_eq_getElem hi]
    exact List.getElem_mem hi
  have hcl2 : ∀ o ∈ dO, o.1 ∈ (doneB dO 0).map (fun x => x.2.1) := fun o ho => by
    obtain ⟨i, hi, rfl⟩ := List.getElem_of_mem ho
    refine List.mem_map.2 ⟨itemB dO i, ?_, ?_⟩
    · unfold doneB
      refine List.mem_map.2 ⟨dO.length - 1 - i, List.mem_range.2 (by omega), ?_⟩
      rw [show dO.length - 1 - (dO.length - 1 - i) = i by omega]
    · simp [itemB, hi]
  have e1 : (doneB dO 0).map (toT c) = ((doneB dO 0).map (fun x => x.2.1)).map (fun x => (⟨c x, x⟩ : T)) := by rw [List.map_map]; rfl
  refine falls_one ⟨?_, ?_⟩ hK (fun m hmo => ?_)
  · rw [List.pairwise_map]
    unfold doneB
    rw [List.pairwise_map]
    refine (List.pairwise_lt_range (n := dO.length - 0)).imp_of_mem ?_
    intro j i hj hi hji
    rw [List.mem_range] at hj hi
    have := (List.pairwise_iff_getElem.1 hs) (dO.length - 1 - i) (dO.length - 1 - j) (by omega) (by omega) (by omega)
    have g1 : (itemB dO (dO.length - 1 - i)).2 = dO[dO.length - 1 - i]'(by omega) := by simp [itemB, show dO.length - 1 - i < dO.length by omega]
    have g2 : (itemB dO (dO.length - 1 - j)).2 = dO[dO.length - 1 - j]'(by omega) := by simp [itemB, show dO.length - 1 - j < dO.length by omega]
    show rkD (itemB dO (dO.length - 1 - i)).2.1 < rkD (itemB dO (dO.length - 1 - j)).2.1
    rw [g1, g2]
    exact this
  · intro t ht
    obtain ⟨x, hx, rfl⟩ := List.mem_map.1 ht
    have h1 := (hm x.2.1 x.2.2).1 (List.mem_map_of_mem (hcl x hx))
    have h2 := hc x.2.1
    exact ⟨x.2.2, by show 1 ≤ c x.2.1; omega, by show c x.2.1 ≤ 100; omega⟩
  · rw [e1, hKc m hmo]
    by_cases hn : m ∈ (doneB dO 0).map (fun x => x.2.1)
    · exact coef_map_in c m _ hn
    · rw [coef_map_out c m _ hn]
      have : ¬ c m ≠ 0 := fun h => by
        obtain ⟨o, ho, he⟩ := List.mem_map.1 ((hm m hmo).2 h)
        exact hn (he ▸ hcl2 o ho)
      omega
end Go.Proofs.Ytioecpiogpjlaaa
