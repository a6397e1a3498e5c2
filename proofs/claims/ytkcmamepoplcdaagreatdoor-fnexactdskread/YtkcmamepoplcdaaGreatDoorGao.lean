/-
  Reading terms as the model does: as lists of bytes.
  A term is read back out of its text.
  Reading an operator, as lists of bytes: the model's way and the program's are one.
-/
import Derived.Test.YtkcmamepoplcdaaGreatDoorGae
import Derived.Test.YtkcmamepoplcdaaGreatDoorGan
namespace Go.Proofs.YtkcmamepoplcdaaGreatDoor
open Go.RowKit
set_option linter.unusedVariables false

def nstep (n : Int) (c : UInt8) : Int := if n < 1000 then n * 10 + ((c.toNat : Int) - 48) else n
def nv (d : List UInt8) : Int := d.foldl nstep 0
theorem nv_snoc (d : List UInt8) (c : UInt8) : nv (d ++ [c]) = nstep (nv d) c := by unfold nv; rw [List.foldl_append]; rfl
theorem nv_bd (d : List UInt8) (h : ∀ c ∈ d, isD c = true) : 0 ≤ nv d ∧ nv d ≤ 10000 := by
  have key : ∀ (d : List UInt8) (n : Int), (∀ c ∈ d, isD c = true) → 0 ≤ n ∧ n ≤ 10000 → 0 ≤ d.foldl nstep n ∧ d.foldl nstep n ≤ 10000 := fun d => by
    induction d with
    | nil => intro n _ h; exact h
    | cons c d ih =>
      intro n h hn
      rw [List.foldl_cons]
      refine ih _ (fun x hx => h x (by simp [hx])) ?_
      have hc := of_decide_eq_true (h c (by simp))
      unfold nstep
      split <;> omega
  exact key d 0 h ⟨by omega, by omega⟩
theorem lead_isD (l : List UInt8) : ∀ c ∈ lead l, isD c = true := fun c hc => by
  unfold lead at hc
  induction l with
  | nil => cases hc
  | cons x l ih =>
    rw [List.takeWhile_cons] at hc
    split at hc
    · rename_i hx
      rcases List.mem_cons.1 hc with e | e
      · rw [e]; exact hx
      · exact ih e
    · cases hc
def isLt (c : UInt8) : Bool := decide (c.toNat = 120 ∨ c.toNat = 121 ∨ c.toNat = 100 ∨ c.toNat = 101)
def setL (c : UInt8) (n : Int) (t : T) : T := if c.toNat = 120 then ⟨t.c, ⟨n, t.m.y, t.m.d, t.m.e⟩⟩ else if c.toNat = 121 then ⟨t.c, ⟨t.m.x, n, t.m.d, t.m.e⟩⟩ else if c.toNat = 100 then ⟨t.c, ⟨t.m.x, t.m.y, n, t.m.e⟩⟩ else ⟨t.c, ⟨t.m.x, t.m.y, t.m.d, n⟩⟩
def nOf (r : List UInt8) : Int := if (lead r).length = 0 then 1 else nv (lead r)
def ltm : Nat → T → List UInt8 → T
  | 0, t, _ => t
  | _ + 1, t, [] => t
  | f + 1, t, c :: r => if isLt c = true then ltm f (setL c (nOf r) t) (r.drop (lead r).length) else ⟨0, ⟨0, 0, 0, 0⟩⟩
theorem ltm_nil (f : Nat) (t : T) : ltm f t [] = t := by cases f <;> rfl
theorem ltm_yes {f : Nat} {t : T} {c : UInt8} {r : List UInt8} (h : isLt c = true) : ltm (f + 1) t (c :: r) = ltm f (setL c (nOf r) t) (r.drop (lead r).length) := by
  show (if isLt c = true then _ else _) = _
  rw [if_pos h]
theorem ltm_no {f : Nat} {t : T} {c : UInt8} {r : List UInt8} (h : isLt c = false) : ltm (f + 1) t (c :: r) = ⟨0, ⟨0, 0, 0, 0⟩⟩ := by
  show (if isLt c = true then _ else _) = _
  rw [if_neg (by rw [h]; simp)]
def trm0 (s : List UInt8) : T := ⟨if 0 < (lead s).length then nv (lead s) else 1, ⟨0, 0, 0, 0⟩⟩
def trmR (s : List UInt8) : T := ltm (s.drop (lead s).length).length (trm0 s) (s.drop (lead s).length)
theorem nv_dec {n : Nat} (h2 : 2 ≤ n) (hn : n ≤ 15) : nv (Lib.decDigits n) = (n : Int) := by
  rcases (show n = 2 ∨ n = 3 ∨ n = 4 ∨ n = 5 ∨ n = 6 ∨ n = 7 ∨ n = 8 ∨ n = 9 ∨ n = 10 ∨ n = 11 ∨ n = 12 ∨ n = 13 ∨ n = 14 ∨ n = 15 by omega) with rfl | rfl | rfl | rfl | rfl | rfl | rfl | rfl | rfl | rfl | rfl | rfl | rfl | rfl
  all_goals first
    | (rw [dec_one (by omega)]; rfl)
    | (rw [dec_more (by omega), dec_one (by omega)]; rfl)
theorem dec_pos (n : Nat) : (Lib.decDigits n).length ≠ 0 := fun h => dec_ne n (List.length_eq_zero_iff.1 h)
theorem ltm_fpw {c : UInt8} (hc : isLt c = true) {n : Int} (h0 : 0 ≤ n) (h1 : n ≤ 15) {t : List UInt8} (hD : NoD t) (q : T) : ∀ f, (fpw c n ++ t).length ≤ f → ∃ f', t.length ≤ f' ∧ ltm f q (fpw c n ++ t) = ltm f' (if n = 0 then q else setL c n q) t := fun f hf => by
  by_cases hz : n = 0
  · subst hz
    rw [fpw_zero, List.nil_append] at hf ⊢
    exact ⟨f, hf, by rw [if_pos rfl]⟩
  · rw [if_neg hz]
    by_cases ho : n = 1
    · subst ho
      rw [fpw_one, List.singleton_append] at hf ⊢
      obtain ⟨f', rfl⟩ : ∃ f', f = f' + 1 := ⟨f - 1, by simp at hf; omega⟩
      have e : lead t = [] := lead_app (d := []) (fun _ h => by cases h) hD
      refine ⟨f', by simp at hf; omega, ?_⟩
      rw [ltm_yes hc]
      unfold nOf
      rw [e]
      rfl
    · obtain ⟨m, rfl⟩ : ∃ m : Nat, n = (m : Int) := ⟨n.toNat, by omega⟩
      rw [fpw_more (by omega), List.cons_append] at hf ⊢
      obtain ⟨f', rfl⟩ : ∃ f', f = f' + 1 := ⟨f - 1, by simp at hf; omega⟩
      have e : lead (Lib.decDigits m ++ t) = Lib.decDigits m := lead_app (dec_isD m (by omega)) hD
      refine ⟨f', by simp at hf; omega, ?_⟩
      rw [ltm_yes hc]
      unfold nOf
      rw [e, if_neg (dec_pos m), nv_dec (by omega) (by omega)]
      simp
theorem trmR_S {m : M} (h : M.ok m = true) (hne : monS m ≠ []) : (trmR (monS m)).m = m := by
  obtain ⟨x1, x2, y1, y2, d1, d2, e1, e2⟩ := M.ok_iff.1 h
  have a4 : NoD [] := fun c r e => by cases e
  have t3 : NoD (fpw 101 m.e ++ []) := fpw_heads (P := fun c => isD c = false) (by decide) a4
  have t2 : NoD (fpw 100 m.d ++ (fpw 101 m.e ++ [])) := fpw_heads (P := fun c => isD c = false) (by decide) t3
  have t1 : NoD (fpw 121 m.y ++ (fpw 100 m.d ++ (fpw 101 m.e ++ []))) := fpw_heads (P := fun c => isD c = false) (by decide) t2
  have t0 : NoD (fpw 120 m.x ++ (fpw 121 m.y ++ (fpw 100 m.d ++ (fpw 101 m.e ++ [])))) := fpw_heads (P := fun c => isD c = false) (by decide) t1
  have e : monS m = fpw 120 m.x ++ (fpw 121 m.y ++ (fpw 100 m.d ++ (fpw 101 m.e ++ []))) := by rw [monS_is]; simp
  have l0 : lead (monS m) = [] := by rw [e]; exact lead_app (d := []) (fun _ h => by cases h) t0
  unfold trmR trm0
  rw [l0]
  show (ltm (monS m).length ⟨1, ⟨0, 0, 0, 0⟩⟩ (monS m)).m = m
  rw [e]
  obtain ⟨f1, k1, q1⟩ := ltm_fpw (c := 120) (by decide) x1 x2 t1 ⟨1, ⟨0, 0, 0, 0⟩⟩ _ (Nat.le_refl _)
  rw [q1]
  obtain ⟨f2, k2, q2⟩ := ltm_fpw (c := 121) (by decide) y1 y2 t2 (if m.x = 0 then ⟨1, ⟨0, 0, 0, 0⟩⟩ else setL 120 m.x ⟨1, ⟨0, 0, 0, 0⟩⟩) f1 k1
  rw [q2]
  obtain ⟨f3, k3, q3⟩ := ltm_fpw (c := 100) (by decide) d1 d2 t3 (if m.y = 0 then (if m.x = 0 then ⟨1, ⟨0, 0, 0, 0⟩⟩ else setL 120 m.x ⟨1, ⟨0, 0, 0, 0⟩⟩) else setL 121 m.y (if m.x = 0 then ⟨1, ⟨0, 0, 0, 0⟩⟩ else setL 120 m.x ⟨1, ⟨0, 0, 0, 0⟩⟩)) f2 k2
  rw [q3]
  obtain ⟨f4, k4, q4⟩ := ltm_fpw (c := 101) (by decide) e1 e2 a4 (if m.d = 0 then (if m.y = 0 then (if m.x = 0 then ⟨1, ⟨0, 0, 0, 0⟩⟩ else setL 120 m.x ⟨1, ⟨0, 0, 0, 0⟩⟩) else setL 121 m.y (if m.x = 0 then ⟨1, ⟨0, 0, 0, 0⟩⟩ else setL 120 m.x ⟨1, ⟨0, 0, 0, 0⟩⟩)) else setL 100 m.d (if m.y = 0 then (if m.x = 0 then ⟨1, ⟨0, 0, 0, 0⟩⟩ else setL 120 m.x ⟨1, ⟨0, 0, 0, 0⟩⟩) else setL 121 m.y (if m.x = 0 then ⟨1, ⟨0, 0, 0, 0⟩⟩ else setL 120 m.x ⟨1, ⟨0, 0, 0, 0⟩⟩))) f3 k3
  rw [q4, ltm_nil]
  rcases m with ⟨x, y, d, z⟩
  simp only
  have s120 : ∀ n t, setL 120 n t = ⟨t.c, ⟨n, t.m.y, t.m.d, t.m.e⟩⟩ := fun n t => rfl
  have s121 : ∀ n t, setL 121 n t = ⟨t.c, ⟨t.m.x, n, t.m.d, t.m.e⟩⟩ := fun n t => rfl
  have s100 : ∀ n t, setL 100 n t = ⟨t.c, ⟨t.m.x, t.m.y, n, t.m.e⟩⟩ := fun n t => rfl
  have s101 : ∀ n t, setL 101 n t = ⟨t.c, ⟨t.m.x, t.m.y, t.m.d, n⟩⟩ := fun n t => rfl
  simp only [s120, s121, s100, s101]
  by_cases hx : x = 0 <;> by_cases hy : y = 0 <;> by_cases hd : d = 0 <;> by_cases he : z = 0 <;> simp [hx, hy, hd, he]
theorem trmR_T {m : M} (h : M.ok m = true) {s : List UInt8} (hs : monT m = s) : (trmR s).m = m := by
  subst hs
  by_cases h0 : monS m = []
  · rw [monT_one h h0]
    have e : m = ⟨0, 0, 0, 0⟩ := by
      by_cases hz : m.x = 0 ∧ m.y = 0 ∧ m.d = 0 ∧ m.e = 0
      · rcases m with ⟨x, y, d, e⟩
        obtain ⟨rfl, rfl, rfl, rfl⟩ := hz
        rfl
      · obtain ⟨c, r, e, _⟩ := monS_head h hz
        rw [e] at h0; cases h0
    rw [e]
    have e2 : (trmR [49]).m = ⟨0, 0, 0, 0⟩ := by kernel_rfl
    exact e2
  · rw [monT_is h h0]
    exact trmR_S h h0
/-- what the model reads. -/
theorem monR_spec (s : List UInt8) : monR s = if s.length ≤ 40 ∧ (M.ok (trmR s).m = true ∧ monT (trmR s).m = s) then ((trmR s).m, true) else (⟨0, 0, 0, 0⟩, false) :=
  monR_by fun m hm hs => trmR_T hm hs
end Go.Proofs.YtkcmamepoplcdaaGreatDoor
namespace Go.Proofs.YtkcmamepoplcdaaGreatDoor
set_option linter.unusedVariables false
theorem ltm_S {m : M} (h : M.ok m = true) (k : Int) {f : Nat} (hf : (monS m).length ≤ f) : ltm f ⟨k, ⟨0, 0, 0, 0⟩⟩ (monS m) = ⟨k, m⟩ := by
  obtain ⟨x1, x2, y1, y2, d1, d2, e1, e2⟩ := M.ok_iff.1 h
  have a4 : NoD [] := fun c r e => by cases e
  have t3 : NoD (fpw 101 m.e ++ []) := fpw_heads (P := fun c => isD c = false) (by decide) a4
  have t2 : NoD (fpw 100 m.d ++ (fpw 101 m.e ++ [])) := fpw_heads (P := fun c => isD c = false) (by decide) t3
  have t1 : NoD (fpw 121 m.y ++ (fpw 100 m.d ++ (fpw 101 m.e ++ []))) := fpw_heads (P := fun c => isD c = false) (by decide) t2
  have e : monS m = fpw 120 m.x ++ (fpw 121 m.y ++ (fpw 100 m.d ++ (fpw 101 m.e ++ []))) := by rw [monS_is]; simp
  rw [e] at hf ⊢
  obtain ⟨f1, k1, q1⟩ := ltm_fpw (c := 120) (by decide) x1 x2 t1 ⟨k, ⟨0, 0, 0, 0⟩⟩ _ hf
  rw [q1]
  generalize hA : (if m.x = 0 then (⟨k, ⟨0, 0, 0, 0⟩⟩ : T) else setL 120 m.x ⟨k, ⟨0, 0, 0, 0⟩⟩) = A
  obtain ⟨f2, k2, q2⟩ := ltm_fpw (c := 121) (by decide) y1 y2 t2 A f1 k1
  rw [q2]
  generalize hB : (if m.y = 0 then A else setL 121 m.y A) = B
  obtain ⟨f3, k3, q3⟩ := ltm_fpw (c := 100) (by decide) d1 d2 t3 B f2 k2
  rw [q3]
  generalize hC : (if m.d = 0 then B else setL 100 m.d B) = C
  obtain ⟨f4, k4, q4⟩ := ltm_fpw (c := 101) (by decide) e1 e2 a4 C f3 k3
  rw [q4, ltm_nil]
  subst hC hB hA
  rcases m with ⟨x, y, d, z⟩
  simp only
  have s120 : ∀ n t, setL 120 n t = ⟨t.c, ⟨n, t.m.y, t.m.d, t.m.e⟩⟩ := fun n t => rfl
  have s121 : ∀ n t, setL 121 n t = ⟨t.c, ⟨t.m.x, n, t.m.d, t.m.e⟩⟩ := fun n t => rfl
  have s100 : ∀ n t, setL 100 n t = ⟨t.c, ⟨t.m.x, t.m.y, n, t.m.e⟩⟩ := fun n t => rfl
  have s101 : ∀ n t, setL 101 n t = ⟨t.c, ⟨t.m.x, t.m.y, t.m.d, n⟩⟩ := fun n t => rfl
  simp only [s120, s121, s100, s101]
  by_cases hx : x = 0 <;> by_cases hy : y = 0 <;> by_cases hd : d = 0 <;> by_cases he : z = 0 <;> simp [hx, hy, hd, he]
theorem nv_dec1 {n : Nat} (h : n < 10) : nv (Lib.decDigits n) = (n : Int) := by
  rw [dec_one h]
  show nstep 0 _ = _
  unfold nstep
  rw [if_pos (by omega), UInt8.toNat_ofNat']
  omega
theorem nv_dec2 {n : Nat} (h : n < 100) : nv (Lib.decDigits n) = (n : Int) := by
  by_cases h1 : n < 10
  · exact nv_dec1 h1
  · rw [dec_more h1, nv_snoc, nv_dec1 (n := n / 10) (by omega)]
    unfold nstep
    rw [if_pos (by omega), UInt8.toNat_ofNat']
    omega
theorem nv_dec3 {n : Nat} (h : n < 1000) : nv (Lib.decDigits n) = (n : Int) := by
  by_cases h1 : n < 10
  · exact nv_dec1 h1
  · rw [dec_more h1, nv_snoc, nv_dec2 (n := n / 10) (by omega)]
    unfold nstep
    rw [if_pos (by omega), UInt8.toNat_ofNat']
    omega
theorem monS_noD {m : M} (h : M.ok m = true) : NoD (monS m) := by
  have a4 : NoD [] := fun c r e => by cases e
  have t3 : NoD (fpw 101 m.e ++ []) := fpw_heads (P := fun c => isD c = false) (by decide) a4
  have t2 : NoD (fpw 100 m.d ++ (fpw 101 m.e ++ [])) := fpw_heads (P := fun c => isD c = false) (by decide) t3
  have t1 : NoD (fpw 121 m.y ++ (fpw 100 m.d ++ (fpw 101 m.e ++ []))) := fpw_heads (P := fun c => isD c = false) (by decide) t2
  have t0 : NoD (fpw 120 m.x ++ (fpw 121 m.y ++ (fpw 100 m.d ++ (fpw 101 m.e ++ [])))) := fpw_heads (P := fun c => isD c = false) (by decide) t1
  have e : monS m = fpw 120 m.x ++ (fpw 121 m.y ++ (fpw 100 m.d ++ (fpw 101 m.e ++ []))) := by rw [monS_is]; simp
  rw [e]; exact t0
/-- digits (or none), then a monomial's letters. -/
theorem trmR_app {d : List UInt8} (hd : ∀ c ∈ d, isD c = true) {m : M} (h : M.ok m = true) : trmR (d ++ monS m) = ⟨if 0 < d.length then nv d else 1, m⟩ := by
  have hl : lead (d ++ monS m) = d := lead_app hd (monS_noD h)
  unfold trmR trm0
  rw [hl, List.drop_left]
  exact ltm_S h _ (Nat.le_refl _)
theorem trmR_trm {t : T} (h1 : 1 ≤ t.c) (h2 : t.c ≤ 100) (h : M.ok t.m = true) : trmR (trmT t) = t := by
  have hd : ∀ c ∈ dcD t.c, isD c = true := fun c hc => dec_isD _ (by omega) c hc
  have hp : 0 < (dcD t.c).length := Nat.pos_of_ne_zero (dec_pos _)
  have hv : nv (dcD t.c) = t.c := by
    unfold dcD
    rw [nv_dec3 (by omega)]
    omega
  unfold trmT
  by_cases h0 : t.m.x = 0 ∧ t.m.y = 0 ∧ t.m.d = 0 ∧ t.m.e = 0
  · rw [if_pos h0]
    have e0 : monS t.m = [] := by
      obtain ⟨a, b, c, d⟩ := h0
      rw [monS_is, a, b, c, d]; rfl
    have := trmR_app hd h
    rw [e0, List.append_nil, if_pos hp, hv] at this
    exact this
  · rw [if_neg h0]
    obtain ⟨c, r, e, _⟩ := monS_head h h0
    have hne : monS t.m ≠ [] := by rw [e]; simp
    rw [monT_is h hne]
    by_cases hc : t.c = 1
    · rw [if_pos hc]
      have := trmR_app (d := []) (fun _ q => by cases q) h
      rw [List.nil_append] at this
      rw [this]
      rcases t with ⟨tc, tm⟩
      simp at hc
      simp [hc]
    · rw [if_neg hc, trmR_app hd h, if_pos hp, hv]
end Go.Proofs.YtkcmamepoplcdaaGreatDoor
namespace Go.Proofs.YtkcmamepoplcdaaGreatDoor
set_option linter.unusedVariables false
def wT (s : List UInt8) : List T := (cutL s).map trmR
/-- what PolRead answers. -/
def polR (s : List UInt8) : List T × Bool := if s = [48] then ([], true) else if s.length ≤ 400 ∧ (polOk (wT s).length (lf (wT s)) = true ∧ polT (wT s).length (lf (wT s)) = s) then (wT s, true) else ([], false)
theorem polR_zero : polR [48] = ([], true) := by unfold polR; rw [if_pos rfl]
theorem polR_yes {s : List UInt8} (h0 : s ≠ [48]) (h1 : s.length ≤ 400) (h2 : polOk (wT s).length (lf (wT s)) = true) (h3 : polT (wT s).length (lf (wT s)) = s) : polR s = (wT s, true) := by
  unfold polR; rw [if_neg h0, if_pos ⟨h1, h2, h3⟩]
theorem polR_no {s : List UInt8} (h0 : s ≠ [48]) (h : ¬ (s.length ≤ 400 ∧ (polOk (wT s).length (lf (wT s)) = true ∧ polT (wT s).length (lf (wT s)) = s))) : polR s = ([], false) := by
  unfold polR; rw [if_neg h0, if_neg h]
theorem wT_len (s : List UInt8) : (wT s).length = (cutL s).length := by unfold wT; simp
def okc (t : T) : Prop := (1 ≤ t.c ∧ t.c ≤ 100) ∧ M.ok t.m = true
/-- what the program reads of a word. -/
def TRd (w : List UInt8) (t : T) (b : Bool) : Prop := (b = true → okc t → trmT t = w) ∧ ∀ t0, okc t0 → trmT t0 = w → t = t0 ∧ b = true
theorem lf_at {L : List T} {i : Nat} {t : T} (h : L[i]? = some t) : lf L i = t := by unfold lf; rw [List.getD_eq_getElem?_getD, h]; rfl
theorem wrds_at (f : Nat → T) : ∀ {k i : Nat}, i < k → (wrds f k)[i]? = some (trmT (f i))
  | 0, i, h => by omega
  | k + 1, i, h => by
    unfold wrds
    by_cases e : i < k
    · rw [List.getElem?_append_left (by rw [wrds_len]; exact e), wrds_at f e]
    · have : i = k := by omega
      subst this
      rw [List.getElem?_append_right (by rw [wrds_len]; omega), wrds_len]
      simp
/-- the words of what is read are the texts of its terms. -/
theorem polR_words {s : List UInt8} (h0 : s ≠ [48]) (h : (polR s).2 = true) : s.length ≤ 400 ∧ ∃ (n : Nat) (f : Nat → T), n ≠ 0 ∧ polOk n f = true ∧ cutL s = wrds f n ∧ (∀ i, i < n → okc (f i)) ∧ (wT s).length = n ∧ (∀ i, i < n → lf (wT s) i = f i) := by
  by_cases q : s.length ≤ 400 ∧ (polOk (wT s).length (lf (wT s)) = true ∧ polT (wT s).length (lf (wT s)) = s)
  · obtain ⟨q1, q2, q3⟩ := q
    have hne : (wT s).length ≠ 0 := by
      rw [wT_len]
      intro e
      exact cut_ne s (List.length_eq_zero_iff.1 e)
    refine ⟨q1, _, _, hne, q2, ?_, fun i hi => (polOk_is q2).2 i hi, rfl, fun i _ => rfl⟩
    have := cut_polT q2 hne
    rw [q3] at this
    exact this
  · rw [polR_no h0 q] at h
    cases h
theorem okc_wT {s : List UInt8} : True := trivial
/-- all words were read, and it is an operator. -/
theorem polR_all {s : List UInt8} {ts : List T} (h0 : s ≠ [48]) (hs : s.length ≤ 400) (hl : ts.length = (cutL s).length) (hr : ∀ (i : Nat) (w : List UInt8) (t : T), (cutL s)[i]? = some w → ts[i]? = some t → TRd w t true) (hok : polOk ts.length (lf ts) = true) : polR s = (ts, true) := by
  have hts : wT s = ts := by
    apply List.ext_getElem?
    intro i
    unfold wT
    rw [List.getElem?_map]
    by_cases hi : i < ts.length
    · obtain ⟨t, ht⟩ : ∃ t, ts[i]? = some t := ⟨_, List.getElem?_eq_getElem hi⟩
      obtain ⟨w, hw⟩ : ∃ w, (cutL s)[i]? = some w := ⟨_, List.getElem?_eq_getElem (by omega)⟩
      have hk : okc t := by
        have := (polOk_is hok).2 i hi
        rw [lf_at ht] at this
        exact this
      have e := (hr i w t hw ht).1 rfl hk
      rw [hw, ht]
      show some (trmR w) = some t
      rw [← e, trmR_trm hk.1.1 hk.1.2 hk.2]
    · rw [List.getElem?_eq_none (by omega), List.getElem?_eq_none (by omega)]
      rfl
  have hn : ts.length ≠ 0 := by rw [hl]; intro e; exact cut_ne s (List.length_eq_zero_iff.1 e)
  have hw : cutL s = wrds (lf ts) ts.length := by
    apply List.ext_getElem?
    intro i
    by_cases hi : i < ts.length
    · obtain ⟨t, ht⟩ : ∃ t, ts[i]? = some t := ⟨_, List.getElem?_eq_getElem hi⟩
      obtain ⟨w, hw⟩ : ∃ w, (cutL s)[i]? = some w := ⟨_, List.getElem?_eq_getElem (by omega)⟩
      have hk : okc t := by
        have := (polOk_is hok).2 i hi
        rw [lf_at ht] at this
        exact this
      have e := (hr i w t hw ht).1 rfl hk
      rw [hw, wrds_at _ hi, lf_at ht, e]
    · rw [List.getElem?_eq_none (by omega), List.getElem?_eq_none (by rw [wrds_len]; omega)]
  have ht : polT ts.length (lf ts) = s := by
    rw [polT_is hok hn, ← jn_wrds, ← hw, jn_cut]
  have := polR_yes h0 hs (by rw [hts]; exact hok) (by rw [hts]; exact ht)
  rw [hts] at this
  exact this
/-- a word was not read. -/
theorem polR_bad {s : List UInt8} {i : Nat} {w : List UInt8} {t : T} (h0 : s ≠ [48]) (hw : (cutL s)[i]? = some w) (hr : TRd w t false) : polR s = ([], false) := by
  cases h : (polR s).2
  · unfold polR at h ⊢
    rw [if_neg h0] at h ⊢
    split at h
    · cases h
    · rename_i q
      rw [if_neg q]
  · obtain ⟨_, n, f, hn, hok, hc, hk, _, _⟩ := polR_words h0 h
    have hi : i < n := by
      have := (List.getElem?_eq_some_iff.1 hw).1
      rw [hc, wrds_len] at this
      exact this
    rw [hc, wrds_at f hi] at hw
    cases hw
    exact absurd (hr.2 (f i) (hk i hi) rfl).2 (by simp)
/-- all words were read, but it is no operator. -/
theorem polR_not {s : List UInt8} {ts : List T} (h0 : s ≠ [48]) (hl : ts.length = (cutL s).length) (hr : ∀ (i : Nat) (w : List UInt8) (t : T), (cutL s)[i]? = some w → ts[i]? = some t → TRd w t true) (hok : polOk ts.length (lf ts) = false) : polR s = ([], false) := by
  cases h : (polR s).2
  · unfold polR at h ⊢
    rw [if_neg h0] at h ⊢
    split at h
    · cases h
    · rename_i q
      rw [if_neg q]
  · obtain ⟨_, n, f, hn, hok', hc, hk, hl', hf⟩ := polR_words h0 h
    have hts : wT s = ts := by
      apply List.ext_getElem?
      intro i
      by_cases hi : i < ts.length
      · obtain ⟨t, ht⟩ : ∃ t, ts[i]? = some t := ⟨_, List.getElem?_eq_getElem hi⟩
        obtain ⟨w, hw⟩ : ∃ w, (cutL s)[i]? = some w := ⟨_, List.getElem?_eq_getElem (by omega)⟩
        have hin : i < n := by
          have := (List.getElem?_eq_some_iff.1 hw).1
          rw [hc, wrds_len] at this
          exact this
        have hw' := hw
        rw [hc, wrds_at f hin] at hw'
        have e := (hr i w t hw ht).2 (f i) (hk i hin) (by cases hw'; rfl)
        have hx : (wT s)[i]? = some (lf (wT s) i) := by
          unfold lf
          rw [List.getD_eq_getElem?_getD, List.getElem?_eq_getElem (by omega)]
          rfl
        rw [hx, hf i hin, ht, e.1]
      · rw [List.getElem?_eq_none (by rw [wT_len]; omega), List.getElem?_eq_none (by omega)]
    have h2 : polOk (wT s).length (lf (wT s)) = true := by
      unfold polR at h
      rw [if_neg h0] at h
      split at h
      · rename_i q
        exact q.2.1
      · cases h
    rw [hts, hok] at h2
    cases h2
end Go.Proofs.YtkcmamepoplcdaaGreatDoor
