/-
  A term is read back out of its text.
-/
import Derived.Test.YtnfgiplgkobnlaaDoorCtB
import Derived.Test.YtnfgiplgkobnlaaDoorRdB
namespace Go.Proofs.YtnfgiplgkobnlaaDoor
set_option linter.unusedVariables false
theorem ltm_S {m : M} (h : M.ok m = true) (k : Int) {f : Nat} (hf : (monS m).length ≤ f) : ltm f ⟨k, ⟨0, 0, 0, 0⟩⟩ (monS m) = ⟨k, m⟩ := by
  obtain ⟨x1, x2, y1, y2, d1, d2, e1, e2⟩ := M.ok_iff.1 h
  have a4 : NoD [] := fun c r e => by cases e
  have t3 : NoD (fpw 101 m.e ++ []) := fpw_heads (P := fun c => isD c = false) (by decide) a4
  have t2 : NoD (fpw 100 m.d ++ (fpw 101 m.e ++ [])) := fpw_heads (P := fun c => isD c = false) (by decide) t3
  have t1 : NoD (fpw 121 m.y ++ (fpw 100 m.d ++ (fpw 101 m.e ++ []))) := fpw_heads (P := fun c => isD c = false) (by decide) t2
  have e : monS m = fpw 120 m.x ++ (fpw 121 m.y ++ (fpw 100 m.d ++ (fpw 101 m.e ++ []))) := by rw [monS_is]; simp
  rw [e] at hf ⊢
  obtain ⟨f1, k1, q1⟩ := ltm_fpw (c := 120) (by decide) x1 x2 t1 ⟨k, ⟨0, 0, 0, 0⟩⟩ _ hf
  rw [q1]
  generalize hA : (if m.x = 0 then (⟨k, ⟨0, 0, 0, 0⟩⟩ : T) else setL 120 m.x ⟨k, ⟨0, 0, 0, 0⟩⟩) = A
  obtain ⟨f2, k2, q2⟩ := ltm_fpw (c := 121) (by decide) y1 y2 t2 A f1 k1
  rw [q2]
  generalize hB : (if m.y = 0 then A else setL 121 m.y A) = B
  obtain ⟨f3, k3, q3⟩ := ltm_fpw (c := 100) (by decide) d1 d2 t3 B f2 k2
  rw [q3]
  generalize hC : (if m.d = 0 then B else setL 100 m.d B) = C
  obtain ⟨f4, k4, q4⟩ := ltm_fpw (c := 101) (by decide) e1 e2 a4 C f3 k3
  rw [q4, ltm_nil]
  subst hC hB hA
  rcases m with ⟨x, y, d, z⟩
  simp only
  have s120 : ∀ n t, setL 120 n t = ⟨t.c, ⟨n, t.m.y, t.m.d, t.m.e⟩⟩ := fun n t => rfl
  have s121 : ∀ n t, setL 121 n t = ⟨t.c, ⟨t.m.x, n, t.m.d, t.m.e⟩⟩ := fun n t => rfl
  have s100 : ∀ n t, setL 100 n t = ⟨t.c, ⟨t.m.x, t.m.y, n, t.m.e⟩⟩ := fun n t => rfl
  have s101 : ∀ n t, setL 101 n t = ⟨t.c, ⟨t.m.x, t.m.y, t.m.d, n⟩⟩ := fun n t => rfl
  simp only [s120, s121, s100, s101]
  by_cases hx : x = 0 <;> by_cases hy : y = 0 <;> by_cases hd : d = 0 <;> by_cases he : z = 0 <;> simp [hx, hy, hd, he]
theorem nv_dec1 {n : Nat} (h : n < 10) : nv (Lib.decDigits n) = (n : Int) := by
  rw [dec_one h]
  show nstep 0 _ = _
  unfold nstep
  rw [if_pos (by omega), UInt8.toNat_ofNat']
  omega
theorem nv_dec2 {n : Nat} (h : n < 100) : nv (Lib.decDigits n) = (n : Int) := by
  by_cases h1 : n < 10
  · exact nv_dec1 h1
  · rw [dec_more h1, nv_snoc, nv_dec1 (n := n / 10) (by omega)]
    unfold nstep
    rw [if_pos (by omega), UInt8.toNat_ofNat']
    omega
theorem nv_dec3 {n : Nat} (h : n < 1000) : nv (Lib.decDigits n) = (n : Int) := by
  by_cases h1 : n < 10
  · exact nv_dec1 h1
  · rw [dec_more h1, nv_snoc, nv_dec2 (n := n / 10) (by omega)]
    unfold nstep
    rw [if_pos (by omega), UInt8.toNat_ofNat']
    omega
theorem monS_noD {m : M} (h : M.ok m = true) : NoD (monS m) := by
  have a4 : NoD [] := fun c r e => by cases e
  have t3 : NoD (fpw 101 m.e ++ []) := fpw_heads (P := fun c => isD c = false) (by decide) a4
  have t2 : NoD (fpw 100 m.d ++ (fpw 101 m.e ++ [])) := fpw_heads (P := fun c => isD c = false) (by decide) t3
  have t1 : NoD (fpw 121 m.y ++ (fpw 100 m.d ++ (fpw 101 m.e ++ []))) := fpw_heads (P := fun c => isD c = false) (by decide) t2
  have t0 : NoD (fpw 120 m.x ++ (fpw 121 m.y ++ (fpw 100 m.d ++ (fpw 101 m.e ++ [])))) := fpw_heads (P := fun c => isD c = false) (by decide) t1
  have e : monS m = fpw 120 m.x ++ (fpw 121 m.y ++ (fpw 100 m.d ++ (fpw 101 m.e ++ []))) := by rw [monS_is]; simp
  rw [e]; exact t0
/-- digits (or none), then a monomial's letters. -/
theorem trmR_app {d : List UInt8} (hd : ∀ c ∈ d, isD c = true) {m : M} (h : M.ok m = true) : trmR (d ++ monS m) = ⟨if 0 < d.length then nv d else 1, m⟩ := by
  have hl : lead (d ++ monS m) = d := lead_app hd (monS_noD h)
  unfold trmR trm0
  rw [hl, List.drop_left]
  exact ltm_S h _ (Nat.le_refl _)
theorem trmR_trm {t : T} (h1 : 1 ≤ t.c) (h2 : t.c ≤ 100) (h : M.ok t.m = true) : trmR (trmT t) = t := by
  have hd : ∀ c ∈ dcD t.c, isD c = true := fun c hc => dec_isD _ (by omega) c hc
  have hp : 0 < (dcD t.c).length := Nat.pos_of_ne_zero (dec_pos _)
  have hv : nv (dcD t.c) = t.c := by
    unfold dcD
    rw [nv_dec3 (by omega)]
    omega
  unfold trmT
  by_cases h0 : t.m.x = 0 ∧ t.m.y = 0 ∧ t.m.d = 0 ∧ t.m.e = 0
  · rw [if_pos h0]
    have e0 : monS t.m = [] := by
      obtain ⟨a, b, c, d⟩ := h0
      rw [monS_is, a, b, c, d]; rfl
    have := trmR_app hd h
    rw [e0, List.append_nil, if_pos hp, hv] at this
    exact this
  · rw [if_neg h0]
    obtain ⟨c, r, e, _⟩ := monS_head h h0
    have hne : monS t.m ≠ [] := by rw [e]; simp
    rw [monT_is h hne]
    by_cases hc : t.c = 1
    · rw [if_pos hc]
      have := trmR_app (d := []) (fun _ q => by cases q) h
      rw [List.nil_append] at this
      rw [this]
      rcases t with ⟨tc, tm⟩
      simp at hc
      simp [hc]
    · rw [if_neg hc, trmR_app hd h, if_pos hp, hv]
end Go.Proofs.YtnfgiplgkobnlaaDoor
