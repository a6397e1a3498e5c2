/-
  A text cut at each '+': words that have none, and what they are joined to.
  Reading monomials: what the program guesses, as lists of bytes.
  The text of an operator, cut at each '+', is the texts of its terms.
-/
import Derived.Test.YtoglomfejgpoeaaGreatDoorGac
import Derived.Lib.Strings
import Derived.Lib.AtoiAll
import Derived.Lib.AtoiTie
namespace Go.Proofs.YtoglomfejgpoeaaGreatDoor
set_option linter.unusedVariables false
def consH (c : UInt8) : List (List UInt8) → List (List UInt8)
  | [] => [[c]]
  | h :: t => (c :: h) :: t
/-- a text cut at each '+'. -/
def cutL : List UInt8 → List (List UInt8)
  | [] => [[]]
  | c :: r => if c = 43 then [] :: cutL r else consH c (cutL r)
theorem cut_c (c : UInt8) (r : List UInt8) : cutL (c :: r) = if c = 43 then [] :: cutL r else consH c (cutL r) := rfl
/-- words joined by '+'. -/
def jnL : List (List UInt8) → List UInt8
  | [] => []
  | [w] => w
  | w :: v :: r => w ++ 43 :: jnL (v :: r)
theorem jnL_cons {w : List UInt8} {r : List (List UInt8)} (h : r ≠ []) : jnL (w :: r) = w ++ 43 :: jnL r := by
  cases r with
  | nil => exact absurd rfl h
  | cons v r => rfl
theorem cut_ne : ∀ l, cutL l ≠ []
  | [] => by simp [cutL]
  | c :: r => by
    unfold cutL
    split
    · simp
    · cases e : cutL r <;> simp [consH]
theorem jn_consH {c : UInt8} {ws : List (List UInt8)} (h : ws ≠ []) : jnL (consH c ws) = c :: jnL ws := by
  cases ws with
  | nil => exact absurd rfl h
  | cons v r =>
    cases r with
    | nil => rfl
    | cons u r => rfl
theorem jn_cut : ∀ l, jnL (cutL l) = l
  | [] => rfl
  | c :: r => by
    unfold cutL
    split
    · rename_i e
      rw [jnL_cons (cut_ne r), jn_cut r, e]; rfl
    · rw [jn_consH (cut_ne r), jn_cut r]
theorem cut_word : ∀ {w : List UInt8} (h : ∀ c ∈ w, c ≠ 43), cutL w = [w]
  | [], _ => rfl
  | c :: r, h => by
    unfold cutL
    rw [if_neg (h c (by simp)), cut_word (w := r) (fun x hx => h x (by simp [hx]))]
    rfl
theorem cut_app : ∀ {w : List UInt8} (h : ∀ c ∈ w, c ≠ 43) (r : List UInt8), cutL (w ++ 43 :: r) = w :: cutL r
  | [], _, r => by
    show cutL (43 :: r) = _
    rw [cut_c, if_pos rfl]
  | c :: w, h, r => by
    show cutL (c :: (w ++ 43 :: r)) = _
    rw [cut_c, if_neg (h c (by simp)), cut_app (w := w) (fun x hx => h x (by simp [hx])) r]
    rfl
theorem cut_jn : ∀ {ws : List (List UInt8)} (h0 : ws ≠ []) (h : ∀ w ∈ ws, ∀ c ∈ w, c ≠ 43), cutL (jnL ws) = ws
  | [], h0, _ => absurd rfl h0
  | [w], _, h => cut_word (h w (by simp))
  | w :: v :: r, _, h => by
    rw [jnL_cons (by simp), cut_app (h w (by simp)), cut_jn (ws := v :: r) (by simp) (fun x hx => h x (by simp [hx]))]
/-- as a loop goes on: one byte more. -/
def snocH (c : UInt8) : List (List UInt8) → List (List UInt8)
  | [] => [[c]]
  | [w] => [w ++ [c]]
  | w :: v :: r => w :: snocH c (v :: r)
theorem snocH_cons {c : UInt8} {w : List UInt8} {r : List (List UInt8)} (h : r ≠ []) : snocH c (w :: r) = w :: snocH c r := by
  cases r with
  | nil => exact absurd rfl h
  | cons v r => rfl
theorem snocH_app (c : UInt8) : ∀ (o : List (List UInt8)) (w : List UInt8), snocH c (o ++ [w]) = o ++ [w ++ [c]]
  | [], w => rfl
  | v :: o, w => by
    show snocH c (v :: (o ++ [w])) = _
    rw [snocH_cons (by simp), snocH_app c o w]; rfl
theorem consH_app {c : UInt8} {a b : List (List UInt8)} (h : a ≠ []) : consH c (a ++ b) = consH c a ++ b := by
  cases a with
  | nil => exact absurd rfl h
  | cons v r => rfl
theorem consH_snocH {c k : UInt8} {a : List (List UInt8)} (h : a ≠ []) : consH c (snocH k a) = snocH k (consH c a) := by
  cases a with
  | nil => exact absurd rfl h
  | cons v r =>
    cases r with
    | nil => rfl
    | cons u r => rfl
theorem cut_plus : ∀ l, cutL (l ++ [43]) = cutL l ++ [[]]
  | [] => by decide
  | c :: r => by
    show cutL (c :: (r ++ [43])) = _
    unfold cutL
    rw [cut_plus r]
    split
    · rfl
    · exact consH_app (cut_ne r)
theorem cut_more {k : UInt8} (hk : k ≠ 43) : ∀ l, cutL (l ++ [k]) = snocH k (cutL l)
  | [] => by
    show cutL [k] = _
    unfold cutL
    rw [if_neg hk]
    rfl
  | c :: r => by
    show cutL (c :: (r ++ [k])) = _
    unfold cutL
    rw [cut_more hk r]
    split
    · rw [snocH_cons (cut_ne r)]
    · exact consH_snocH (cut_ne r)
end Go.Proofs.YtoglomfejgpoeaaGreatDoor
namespace Go.Proofs.YtoglomfejgpoeaaGreatDoor
open Go.RowKit
set_option linter.unusedVariables false

def isD (c : UInt8) : Bool := decide (48 ≤ c.toNat ∧ c.toNat ≤ 57)
def lead (l : List UInt8) : List UInt8 := l.takeWhile isD
def valA (d : List UInt8) : Int := match Lib.atoiAll d with | .ok v => v | _ => 1
/-- one place of the guess: what is left, and the number. -/
def gst (k : Nat) (l : List UInt8) : List UInt8 × Int := if Lib.hasPrefix l [ltr k] = true then ((l.drop 1).drop (lead (l.drop 1)).length, valA (lead (l.drop 1))) else (l, 0)
def glS (s : List UInt8) : Nat → List UInt8
  | 0 => s
  | k + 1 => (gst k (glS s k)).1
def gcS (s : List UInt8) (k : Nat) : Int := (gst k (glS s k)).2
def guess (s : List UInt8) : M := ⟨gcS s 0, gcS s 1, gcS s 2, gcS s 3⟩
theorem lead_len (l : List UInt8) : (lead l).length ≤ l.length := (List.takeWhile_prefix _).length_le
theorem glS_len (s : List UInt8) : ∀ k, (glS s k).length ≤ s.length
  | 0 => Nat.le_refl _
  | k + 1 => by
    have h := glS_len s k
    show (gst k (glS s k)).1.length ≤ _
    unfold gst
    split
    · simp; omega
    · exact h
/-- no digit ahead. -/
def NoD (t : List UInt8) : Prop := ∀ c r, t = c :: r → isD c = false
theorem lead_app {d t : List UInt8} (hd : ∀ c ∈ d, isD c = true) (ht : NoD t) : lead (d ++ t) = d := by
  induction d with
  | nil =>
    cases t with
    | nil => rfl
    | cons c r => unfold lead; rw [List.nil_append, List.takeWhile_cons, ht c r rfl]; rfl
  | cons c d ih =>
    unfold lead at ih ⊢
    rw [List.cons_append, List.takeWhile_cons, hd c (by simp)]
    simp only [if_true]
    rw [ih (fun x hx => hd x (by simp [hx]))]
theorem dec_isD : ∀ n, n ≤ 100 → ∀ c ∈ Lib.decDigits n, isD c = true := fun n hn c hc => by
  have key : ∀ k, k < 10 → isD (UInt8.ofNat (48 + k)) = true := fun k hk => by
    rcases (show k = 0 ∨ k = 1 ∨ k = 2 ∨ k = 3 ∨ k = 4 ∨ k = 5 ∨ k = 6 ∨ k = 7 ∨ k = 8 ∨ k = 9 by omega) with rfl | rfl | rfl | rfl | rfl | rfl | rfl | rfl | rfl | rfl <;> decide
  by_cases h1 : n < 10
  · rw [dec_one h1] at hc
    rw [List.mem_singleton.1 hc]
    exact key n h1
  · rw [dec_more h1] at hc
    rcases List.mem_append.1 hc with h | h
    · by_cases h2 : n / 10 < 10
      · rw [dec_one h2] at h
        rw [List.mem_singleton.1 h]
        exact key _ h2
      · rw [dec_more h2, dec_one (by omega)] at h
        rcases List.mem_append.1 h with h | h
        · rw [List.mem_singleton.1 h]; exact key _ (by omega)
        · rw [List.mem_singleton.1 h]; exact key _ (by omega)
    · rw [List.mem_singleton.1 h]
      exact key _ (by omega)
theorem valA_dec {n : Nat} (h2 : 2 ≤ n) (hn : n ≤ 15) : valA (Lib.decDigits n) = (n : Int) := by
  rcases (show n = 2 ∨ n = 3 ∨ n = 4 ∨ n = 5 ∨ n = 6 ∨ n = 7 ∨ n = 8 ∨ n = 9 ∨ n = 10 ∨ n = 11 ∨ n = 12 ∨ n = 13 ∨ n = 14 ∨ n = 15 by omega) with rfl | rfl | rfl | rfl | rfl | rfl | rfl | rfl | rfl | rfl | rfl | rfl | rfl | rfl
  all_goals first
    | (rw [dec_one (by omega)]; rfl)
    | (rw [dec_more (by omega), dec_one (by omega)]; rfl)
theorem hasP_cons (c : UInt8) (r : List UInt8) : Lib.hasPrefix (c :: r) [c] = true := by simp [Lib.hasPrefix]
theorem hasP_ne {c x : UInt8} {r : List UInt8} (h : c ≠ x) : Lib.hasPrefix (c :: r) [x] = false := by
  unfold Lib.hasPrefix
  simp [List.isPrefixOf]
  exact fun e => h e.symm
theorem hasP_nil (x : UInt8) : Lib.hasPrefix [] [x] = false := rfl
/-- a rest that opens with none of these. -/
def NoH (x : UInt8) (t : List UInt8) : Prop := ∀ c r, t = c :: r → c ≠ x
theorem gst_fpw {k : Nat} {n : Int} (h0 : 0 ≤ n) (h1 : n ≤ 15) {t : List UInt8} (hD : NoD t) (hH : NoH (ltr k) t) : gst k (fpw (ltr k) n ++ t) = (t, n) := by
  by_cases hz : n = 0
  · subst hz
    rw [fpw_zero, List.nil_append]
    have : Lib.hasPrefix t [ltr k] = false := by
      cases t with
      | nil => rfl
      | cons c r => exact hasP_ne (hH c r rfl)
    unfold gst
    rw [if_neg (by rw [this]; simp)]
  · by_cases ho : n = 1
    · subst ho
      rw [fpw_one]
      unfold gst
      rw [List.singleton_append, if_pos (hasP_cons _ _)]
      have e : lead t = [] := lead_app (d := []) (fun _ h => by cases h) hD
      show ((t.drop (lead t).length), valA (lead t)) = _
      rw [e]
      rfl
    · obtain ⟨m, rfl⟩ : ∃ m : Nat, n = (m : Int) := ⟨n.toNat, by omega⟩
      rw [fpw_more (by omega)]
      unfold gst
      rw [List.cons_append, if_pos (hasP_cons _ _)]
      have e : lead (Lib.decDigits m ++ t) = Lib.decDigits m := lead_app (dec_isD m (by omega)) hD
      show (((Lib.decDigits m ++ t).drop (lead (Lib.decDigits m ++ t)).length), valA (lead (Lib.decDigits m ++ t))) = _
      rw [e, valA_dec (by omega) (by omega)]
      simp
theorem fpw_heads {x : UInt8} {n : Int} {t : List UInt8} {P : UInt8 → Prop} (hx : P x) (ht : ∀ c r, t = c :: r → P c) : ∀ c r, fpw x n ++ t = c :: r → P c := fun c r h => by
  by_cases h1 : 1 ≤ n
  · obtain ⟨q, hq⟩ := fpw_head (c := x) h1
    rw [hq, List.cons_append, List.cons.injEq] at h
    rw [← h.1]; exact hx
  · rw [fpw_nil (by omega), List.nil_append] at h
    exact ht c r h
theorem guess_S {m : M} (h : M.ok m = true) : guess (monS m) = m := by
  obtain ⟨x1, x2, y1, y2, d1, d2, e1, e2⟩ := M.ok_iff.1 h
  have a4 : ∀ (P : UInt8 → Prop), (∀ c r, ([] : List UInt8) = c :: r → P c) := fun P c r e => by cases e
  have t3 : ∀ (P : UInt8 → Prop), P 101 → ∀ c r, fpw 101 m.e ++ [] = c :: r → P c := fun P h1 => fpw_heads h1 (a4 P)
  have t2 : ∀ (P : UInt8 → Prop), P 101 → P 100 → ∀ c r, fpw 100 m.d ++ (fpw 101 m.e ++ []) = c :: r → P c := fun P h1 h2 => fpw_heads h2 (t3 P h1)
  have t1 : ∀ (P : UInt8 → Prop), P 101 → P 100 → P 121 → ∀ c r, fpw 121 m.y ++ (fpw 100 m.d ++ (fpw 101 m.e ++ [])) = c :: r → P c := fun P h1 h2 h3 => fpw_heads h3 (t2 P h1 h2)
  have e : monS m = fpw 120 m.x ++ (fpw 121 m.y ++ (fpw 100 m.d ++ (fpw 101 m.e ++ []))) := by rw [monS_is]; simp
  have g0 : gst 0 (monS m) = (fpw 121 m.y ++ (fpw 100 m.d ++ (fpw 101 m.e ++ [])), m.x) := by
    rw [e]
    exact gst_fpw (k := 0) x1 x2 (t1 (fun c => isD c = false) (by decide) (by decide) (by decide)) (t1 (fun c => c ≠ 120) (by decide) (by decide) (by decide))
  have g1 : gst 1 (fpw 121 m.y ++ (fpw 100 m.d ++ (fpw 101 m.e ++ []))) = (fpw 100 m.d ++ (fpw 101 m.e ++ []), m.y) := gst_fpw (k := 1) y1 y2 (t2 (fun c => isD c = false) (by decide) (by decide)) (t2 (fun c => c ≠ 121) (by decide) (by decide))
  have g2 : gst 2 (fpw 100 m.d ++ (fpw 101 m.e ++ [])) = (fpw 101 m.e ++ [], m.d) := gst_fpw (k := 2) d1 d2 (t3 (fun c => isD c = false) (by decide)) (t3 (fun c => c ≠ 100) (by decide))
  have g3 : gst 3 (fpw 101 m.e ++ []) = ([], m.e) := gst_fpw (k := 3) e1 e2 (a4 (fun c => isD c = false)) (a4 (fun c => c ≠ 101))
  have l1 : glS (monS m) 1 = fpw 121 m.y ++ (fpw 100 m.d ++ (fpw 101 m.e ++ [])) := by show (gst 0 (monS m)).1 = _; rw [g0]
  have l2 : glS (monS m) 2 = fpw 100 m.d ++ (fpw 101 m.e ++ []) := by show (gst 1 (glS (monS m) 1)).1 = _; rw [l1, g1]
  have l3 : glS (monS m) 3 = fpw 101 m.e ++ [] := by show (gst 2 (glS (monS m) 2)).1 = _; rw [l2, g2]
  unfold guess gcS
  rw [l1, l2, l3, g1, g2, g3]
  show (⟨(gst 0 (monS m)).2, _, _, _⟩ : M) = m
  rw [g0]
theorem guess_T {m : M} (h : M.ok m = true) : guess (monT m) = m := by
  by_cases h0 : monS m = []
  · rw [monT_one h h0]
    have e : m = ⟨0, 0, 0, 0⟩ := by
      by_cases hz : m.x = 0 ∧ m.y = 0 ∧ m.d = 0 ∧ m.e = 0
      · rcases m with ⟨x, y, d, e⟩
        obtain ⟨rfl, rfl, rfl, rfl⟩ := hz
        rfl
      · obtain ⟨c, r, e, _⟩ := monS_head h hz
        rw [e] at h0; cases h0
    rw [e]
    have e2 : guess [49] = ⟨0, 0, 0, 0⟩ := by kernel_rfl
    exact e2
  · rw [monT_is h h0]
    exact guess_S h
/-- what is read. -/
def monR (s : List UInt8) : M × Bool := if s.length ≤ 40 ∧ monT (guess s) = s then (guess s, true) else (⟨0, 0, 0, 0⟩, false)
theorem guess_ok {s : List UInt8} (h : monT (guess s) = s) : M.ok (guess s) = true := by
  cases hk : M.ok (guess s)
  · rw [monT_no hk] at h
    subst h
    exact absurd hk (by decide +kernel)
  · rfl
/-- whoever reads back finds it. -/
theorem monR_by {s : List UInt8} {g : M} (hg : ∀ m, M.ok m = true → monT m = s → g = m) : monR s = if s.length ≤ 40 ∧ (M.ok g = true ∧ monT g = s) then (g, true) else (⟨0, 0, 0, 0⟩, false) := by
  unfold monR
  by_cases h : monT (guess s) = s
  · have hk := guess_ok h
    have e : g = guess s := hg _ hk h
    subst e
    by_cases hl : s.length ≤ 40
    · rw [if_pos ⟨hl, h⟩, if_pos ⟨hl, hk, h⟩]
    · rw [if_neg (fun q => hl q.1), if_neg (fun q => hl q.1)]
  · rw [if_neg (fun q => h q.2), if_neg (fun q => h ?_)]
    rw [← q.2.2, guess_T q.2.1]
end Go.Proofs.YtoglomfejgpoeaaGreatDoor
namespace Go.Proofs.YtoglomfejgpoeaaGreatDoor
set_option linter.unusedVariables false
theorem isD_no {c : UInt8} (h : isD c = true) : c ≠ 43 := by
  rintro rfl
  revert h
  decide
theorem fpw_no {k : UInt8} {n : Int} (hk : k ≠ 43) (hn : n ≤ 100) : ∀ c ∈ fpw k n, c ≠ 43 := by
  intro c hc
  unfold fpw at hc
  split at hc
  · cases hc
  · split at hc
    · simp at hc; rw [hc]; exact hk
    · rcases List.mem_cons.1 hc with h | h
      · rw [h]; exact hk
      · exact isD_no (dec_isD _ (by omega) c h)
theorem monT_no43 {m : M} (h : M.ok m = true) : ∀ c ∈ monT m, c ≠ 43 := by
  intro c hc
  by_cases h0 : monS m = []
  · rw [monT_one h h0] at hc
    simp at hc
    rw [hc]
    decide
  · rw [monT_is h h0, monS_is] at hc
    obtain ⟨x1, x2, y1, y2, d1, d2, e1, e2⟩ := M.ok_iff.1 h
    simp only [List.mem_append] at hc
    rcases hc with ((hc | hc) | hc) | hc
    · exact fpw_no (by decide) (by omega) c hc
    · exact fpw_no (by decide) (by omega) c hc
    · exact fpw_no (by decide) (by omega) c hc
    · exact fpw_no (by decide) (by omega) c hc
theorem trm_no43 {t : T} (hc : t.c ≤ 100) (h : M.ok t.m = true) : ∀ c ∈ trmT t, c ≠ 43 := by
  intro c h1
  have hd : ∀ c ∈ dcD t.c, c ≠ 43 := fun c h2 => isD_no (dec_isD _ (by omega) c h2)
  unfold trmT at h1
  split at h1
  · exact hd c h1
  · split at h1
    · exact monT_no43 h c h1
    · rcases List.mem_append.1 h1 with q | q
      · exact hd c q
      · exact monT_no43 h c q
theorem jnL_snoc : ∀ {ws : List (List UInt8)} (h : ws ≠ []) (w : List UInt8), jnL (ws ++ [w]) = jnL ws ++ 43 :: w
  | [], h, _ => absurd rfl h
  | [v], _, w => rfl
  | v :: u :: r, _, w => by
    show jnL (v :: ((u :: r) ++ [w])) = _
    rw [jnL_cons (by simp), jnL_snoc (ws := u :: r) (by simp) w, jnL_cons (w := v) (r := u :: r) (by simp), List.append_assoc]
    rfl
/-- the words of the first k terms. -/
def wrds (f : Nat → T) : Nat → List (List UInt8)
  | 0 => []
  | k + 1 => wrds f k ++ [trmT (f k)]
theorem wrds_len (f : Nat → T) : ∀ k, (wrds f k).length = k
  | 0 => rfl
  | k + 1 => by unfold wrds; simp [wrds_len f k]
theorem jn_wrds (f : Nat → T) : ∀ k, jnL (wrds f k) = jnT f k
  | 0 => rfl
  | k + 1 => by
    by_cases h : k = 0
    · subst h; simp [wrds, jnT, jnL]
    · have hne : wrds f k ≠ [] := fun e => h (by have := wrds_len f k; rw [e] at this; simpa using this.symm)
      unfold wrds jnT
      rw [jnL_snoc hne, jn_wrds f k, if_neg h]
      simp
theorem wrds_no {f : Nat → T} : ∀ k, (∀ i, i < k → (f i).c ≤ 100 ∧ M.ok (f i).m = true) → ∀ w ∈ wrds f k, ∀ c ∈ w, c ≠ 43
  | 0, _ => fun w hw => by cases hw
  | k + 1, h => fun w hw => by
    unfold wrds at hw
    rcases List.mem_append.1 hw with q | q
    · exact wrds_no k (fun i hi => h i (by omega)) w q
    · simp at q
      rw [q]
      exact trm_no43 (h k (by omega)).1 (h k (by omega)).2
/-- the text of an operator that is not 0, cut. -/
theorem cut_polT {n : Nat} {f : Nat → T} (h : polOk n f = true) (h0 : n ≠ 0) : cutL (polT n f) = wrds f n := by
  have hk := (polOk_is h).2
  rw [polT_is h h0, ← jn_wrds, cut_jn (fun e => h0 (by have := wrds_len f n; rw [e] at this; simpa using this.symm)) (wrds_no n (fun i hi => ⟨(hk i hi).1.2, (hk i hi).2⟩))]
end Go.Proofs.YtoglomfejgpoeaaGreatDoor
