/-
  Reading a line, as lists of bytes: there is at most one line that a text is that of.
-/
import Derived.Test.YtkcmamepoplcdaaGreatDoorGag
import Derived.Test.YtkcmamepoplcdaaGreatDoorDrP
import Derived.Lib.Split
import Derived.Lib.IndexMore
namespace Go.Proofs.YtkcmamepoplcdaaGreatDoor
open Go.RowKit
set_option linter.unusedVariables false
/-- a text cut at each blank. -/
def cutB : List UInt8 → List (List UInt8)
  | [] => [[]]
  | c :: r => if c = 32 then [] :: cutB r else consH c (cutB r)
theorem cub_c (c : UInt8) (r : List UInt8) : cutB (c :: r) = if c = 32 then [] :: cutB r else consH c (cutB r) := rfl
theorem cub_ne : ∀ l, cutB l ≠ []
  | [] => by simp [cutB]
  | c :: r => by
    unfold cutB
    split
    · simp
    · cases e : cutB r <;> simp [consH]
theorem cub_word : ∀ {w : List UInt8} (h : ∀ c ∈ w, c ≠ 32), cutB w = [w]
  | [], _ => rfl
  | c :: r, h => by
    unfold cutB
    rw [if_neg (h c (by simp)), cub_word (w := r) (fun x hx => h x (by simp [hx]))]
    rfl
theorem cub_app : ∀ {w : List UInt8} (h : ∀ c ∈ w, c ≠ 32) (r : List UInt8), cutB (w ++ 32 :: r) = w :: cutB r
  | [], _, r => by
    show cutB (32 :: r) = _
    rw [cub_c, if_pos rfl]
  | c :: w, h, r => by
    show cutB (c :: (w ++ 32 :: r)) = _
    rw [cub_c, if_neg (h c (by simp)), cub_app (w := w) (fun x hx => h x (by simp [hx])) r]
    rfl
theorem cub_blank : ∀ l, cutB (l ++ [32]) = cutB l ++ [[]]
  | [] => by decide
  | c :: r => by
    show cutB (c :: (r ++ [32])) = _
    unfold cutB
    rw [cub_blank r]
    split
    · rfl
    · exact consH_app (cub_ne r)
theorem cub_more {k : UInt8} (hk : k ≠ 32) : ∀ l, cutB (l ++ [k]) = snocH k (cutB l)
  | [] => by
    show cutB [k] = _
    unfold cutB
    rw [if_neg hk]
    rfl
  | c :: r => by
    show cutB (c :: (r ++ [k])) = _
    unfold cutB
    rw [cub_more hk r]
    split
    · rw [snocH_cons (cub_ne r)]
    · exact consH_snocH (cub_ne r)
theorem cub_len : ∀ s : List UInt8, (cutB s).length ≤ s.length + 1
  | [] => by simp [cutB]
  | c :: r => by
    have := cub_len r
    unfold cutB
    split
    · simp; omega
    · cases e : cutB r with
      | nil => exact absurd e (cub_ne r)
      | cons h t => rw [e] at this; simp [consH] at this ⊢; omega
theorem cub_mem_len : ∀ (s : List UInt8) (w : List UInt8), w ∈ cutB s → w.length ≤ s.length
  | [], w, h => by simp [cutB] at h; subst h; simp
  | c :: r, w, h => by
    unfold cutB at h
    split at h
    · rcases List.mem_cons.1 h with e | e
      · subst e; simp
      · have := cub_mem_len r w e; simp; omega
    · cases q : cutB r with
      | nil => exact absurd q (cub_ne r)
      | cons a t =>
        rw [q] at h
        rcases List.mem_cons.1 h with e | e
        · subst e
          have := cub_mem_len r a (by rw [q]; simp)
          simp; omega
        · have := cub_mem_len r w (by rw [q]; simp [e])
          simp; omega
/-- the library's first place of a blank. -/
theorem occ_one {l : List UInt8} {j : Nat} : Lib.occAt l [32] j = true ↔ l[j]? = some 32 := by
  unfold Lib.occAt
  cases h : l[j]? with
  | none =>
    have : l.drop j = [] := List.drop_eq_nil_of_le (List.getElem?_eq_none_iff.1 h)
    rw [this]
    simp
  | some c =>
    have hj : j < l.length := (List.getElem?_eq_some_iff.1 h).1
    rw [List.drop_eq_getElem_cons hj]
    have hc : l[j] = c := (List.getElem?_eq_some_iff.1 h).2
    rw [hc]
    simp [List.isPrefixOf]
    exact ⟨fun e => e.symm, fun e => e.symm⟩
theorem jx_app {w : List UInt8} (h : ∀ c ∈ w, c ≠ 32) (r : List UInt8) : Lib.index (w ++ 32 :: r) [32] = (w.length : Int) := by
  refine Lib.index_first (by simp) (occ_one.2 (by simp)) (fun j hj => ?_)
  cases e : Lib.occAt (w ++ 32 :: r) [32] j
  · rfl
  · have e1 := occ_one.1 e
    rw [List.getElem?_append_left hj] at e1
    exact absurd rfl (h 32 (List.mem_of_getElem? e1))
theorem jx_none {w : List UInt8} (h : ∀ c ∈ w, c ≠ 32) : Lib.index w [32] = -1 := by
  refine Lib.index_none (fun j hj => ?_)
  cases e : Lib.occAt w [32] j
  · rfl
  · exact absurd rfl (h 32 (List.mem_of_getElem? (occ_one.1 e)))
theorem lcut_app {w : List UInt8} (h : ∀ c ∈ w, c ≠ 32) (r : List UInt8) : Lib.cut (w ++ 32 :: r) [32] = (w, r, true) := by
  unfold Lib.cut
  rw [jx_app h r, if_pos (by omega)]
  simp [List.drop_append]
theorem lcut_none {w : List UInt8} (h : ∀ c ∈ w, c ≠ 32) : Lib.cut w [32] = (w, [], false) := by
  unfold Lib.cut
  rw [jx_none h, if_neg (by omega)]
theorem spk_app {w : List UInt8} (h : ∀ c ∈ w, c ≠ 32) (k : Nat) (r : List UInt8) : Lib.splitK [32] 0 (k + 1) (w ++ 32 :: r) = w :: Lib.splitK [32] 0 k r := by
  have e1 : (w ++ 32 :: r).take w.length = w := List.take_left' rfl
  have e2 : (w ++ 32 :: r).drop (w.length + 1) = r := by
    rw [List.drop_append, List.drop_eq_nil_of_le (by omega)]
    simp
  rw [Lib.splitK, jx_app h r, if_neg (by rw [beq_iff_eq]; omega)]
  show List.take w.length _ :: Lib.splitK [32] 0 k (List.drop (w.length + 1) _) = _
  rw [e1, e2]
/-- the kind of a word. -/
def kn (w : List UInt8) : Int := if w = nam 1 then 1 else if w = nam 2 then 2 else if w = nam 3 then 3 else if w = nam 4 then 4 else if w = nam 5 then 5 else if w = nam 6 then 6 else if w = nam 7 then 7 else if w = nam 8 then 8 else 0
theorem kn_nam {k : Int} (h : 1 ≤ k ∧ k ≤ 8) : kn (nam k) = k := by
  rcases (show k = 1 ∨ k = 2 ∨ k = 3 ∨ k = 4 ∨ k = 5 ∨ k = 6 ∨ k = 7 ∨ k = 8 by omega) with rfl | rfl | rfl | rfl | rfl | rfl | rfl | rfl <;> decide
theorem kn_bd (w : List UInt8) : 0 ≤ kn w ∧ kn w ≤ 8 := by
  unfold kn
  repeat (split; · omega)
  omega
theorem nam_kn {w : List UInt8} (h : kn w ≠ 0) : nam (kn w) = w := by
  unfold kn at h ⊢
  repeat (split; · (rename_i e; exact e.symm))
  rename_i e8
  simp_all
theorem kn_eq {w : List UInt8} {k : Int} (hk : 1 ≤ k ∧ k ≤ 8) : kn w = k ↔ nam k = w := by
  constructor
  · intro e
    rw [← e]
    exact nam_kn (by omega)
  · intro e
    rw [← e]
    exact kn_nam hk
theorem nam_no (k : Int) : ∀ c ∈ nam k, c ≠ 32 := by
  unfold nam
  repeat (split; · decide)
  decide
theorem sl_no {x : Int} (h0 : 0 ≤ x) (h5 : x ≤ 5) : ∀ c ∈ [slB x], c ≠ 32 := by
  rcases (show x = 0 ∨ x = 1 ∨ x = 2 ∨ x = 3 ∨ x = 4 ∨ x = 5 by omega) with rfl | rfl | rfl | rfl | rfl | rfl <;> decide
/-- the slot of a word, as the model reads it. -/
def slW : List UInt8 → Int
  | [c] => if 65 ≤ (c.toNat : Int) ∧ (c.toNat : Int) ≤ 70 then (c.toNat : Int) - 65 else -1
  | _ => -1
theorem slW_sl {x : Int} (h0 : 0 ≤ x) (h5 : x ≤ 5) : slW [slB x] = x := by
  rcases (show x = 0 ∨ x = 1 ∨ x = 2 ∨ x = 3 ∨ x = 4 ∨ x = 5 by omega) with rfl | rfl | rfl | rfl | rfl | rfl <;> decide
/-- .. and as the program guesses it. -/
def ixW (w : List UInt8) : Int := Lib.index [65, 66, 67, 68, 69, 70] w
theorem ixW_sl {x : Int} (h0 : 0 ≤ x) (h5 : x ≤ 5) : ixW [slB x] = x := by
  rcases (show x = 0 ∨ x = 1 ∨ x = 2 ∨ x = 3 ∨ x = 4 ∨ x = 5 by omega) with rfl | rfl | rfl | rfl | rfl | rfl <;> decide
/-- a line. -/
structure Lne where
  k : Int
  to : Int
  a : Int
  b : Int
  P : List T
def Lne.txt (l : Lne) : List UInt8 := lnT l.k l.to l.a l.b l.P.length (lf l.P)
def Lne.raw (l : Lne) : List UInt8 := rawL l.k l.to l.a l.b l.P.length (lf l.P)
def ln0 : Lne := ⟨0, 0, 0, 0, []⟩
def IsLn (l : Lne) (s : List UInt8) : Prop := l.txt = s ∧ s ≠ []
/-- a line that has a text. -/
structure LnOk (l : Lne) (s : List UInt8) : Prop where
  k : 1 ≤ l.k ∧ l.k ≤ 8
  to : 0 ≤ l.to ∧ l.to ≤ 5
  a : 0 ≤ l.a ∧ l.a ≤ 5
  b : 0 ≤ l.b ∧ l.b ≤ 5
  P : polOk l.P.length (lf l.P) = true
  a0 : 2 ≤ nmd l.k ∨ l.a = 0
  b0 : 3 ≤ nmd l.k ∨ l.b = 0
  p0 : l.k = 1 ∨ l.P = []
  len : s.length ≤ 400
  raw : l.raw = s
theorem IsLn.ok {l : Lne} {s : List UInt8} (h : IsLn l s) : LnOk l s := by
  obtain ⟨h1, h2⟩ := h
  unfold Lne.txt lnT at h1
  split at h1
  · rename_i q
    obtain ⟨q1, q2⟩ := q
    obtain ⟨w1, w2, w3, w4, w5, w6, w7, w8⟩ := of_decide_eq_true q1
    exact ⟨w1, w2, w3, w4, w5, w6, w7, w8.imp id (fun e => List.length_eq_zero_iff.1 e), by rw [← h1]; exact q2, h1⟩
  · exact absurd h1.symm h2
theorem polT_no32 {n : Nat} {f : Nat → T} (h : polOk n f = true) : ∀ c ∈ polT n f, c ≠ 32 := by
  have hD : ∀ c, isD c = true → c ≠ 32 := fun c e => by
    rintro rfl
    revert e
    decide
  have hP : ∀ {k : UInt8} {n : Int}, k ≠ 32 → n ≤ 100 → ∀ c ∈ fpw k n, c ≠ 32 := fun {k n} hk hn c hc => by
    unfold fpw at hc
    split at hc
    · cases hc
    · split at hc
      · simp at hc; rw [hc]; exact hk
      · rcases List.mem_cons.1 hc with q | q
        · rw [q]; exact hk
        · exact hD c (dec_isD _ (by omega) c q)
  have hM : ∀ {m : M}, M.ok m = true → ∀ c ∈ monT m, c ≠ 32 := fun {m} hm c hc => by
    by_cases h0 : monS m = []
    · rw [monT_one hm h0] at hc
      simp at hc
      rw [hc]
      decide
    · rw [monT_is hm h0, monS_is] at hc
      obtain ⟨x1, x2, y1, y2, d1, d2, e1, e2⟩ := M.ok_iff.1 hm
      simp only [List.mem_append] at hc
      rcases hc with ((hc | hc) | hc) | hc
      · exact hP (by decide) (by omega) c hc
      · exact hP (by decide) (by omega) c hc
      · exact hP (by decide) (by omega) c hc
      · exact hP (by decide) (by omega) c hc
  have hT : ∀ {t : T}, t.c ≤ 100 → M.ok t.m = true → ∀ c ∈ trmT t, c ≠ 32 := fun {t} hc hm c h1 => by
    have hd : ∀ c ∈ dcD t.c, c ≠ 32 := fun c h2 => hD c (dec_isD _ (by omega) c h2)
    unfold trmT at h1
    split at h1
    · exact hd c h1
    · split at h1
      · exact hM hm c h1
      · rcases List.mem_append.1 h1 with q | q
        · exact hd c q
        · exact hM hm c q
  by_cases h0 : n = 0
  · rw [polT_zero h h0]; decide
  · rw [polT_is h h0]
    have hk := (polOk_is h).2
    have : ∀ k, k ≤ n → ∀ c ∈ jnT f k, c ≠ 32 := fun k => by
      induction k with
      | zero => intro _ c hc; cases hc
      | succ k ih =>
        intro hkn c hc
        unfold jnT at hc
        rcases List.mem_append.1 hc with q | q
        · split at q
          · cases q
          · rcases List.mem_append.1 q with z | z
            · exact ih (by omega) c z
            · simp at z; rw [z]; decide
        · exact hT (hk k (by omega)).1.2 (hk k (by omega)).2 c q
    exact this n (Nat.le_refl _)
theorem raw_kinds {l : Lne} {s : List UInt8} (h : LnOk l s) :
    (l.k = 1 ∧ s = nam 1 ++ 32 :: ([slB l.to] ++ 32 :: polT l.P.length (lf l.P)) ∧ l.a = 0 ∧ l.b = 0) ∨
    (l.k = 8 ∧ s = nam 8 ++ 32 :: [slB l.to] ∧ l.a = 0 ∧ l.b = 0 ∧ l.P = []) ∨
    ((l.k = 6 ∨ l.k = 7) ∧ s = nam l.k ++ 32 :: ([slB l.to] ++ 32 :: [slB l.a]) ∧ l.b = 0 ∧ l.P = []) ∨
    ((l.k = 2 ∨ l.k = 3 ∨ l.k = 4 ∨ l.k = 5) ∧ s = nam l.k ++ 32 :: ([slB l.to] ++ 32 :: ([slB l.a] ++ 32 :: [slB l.b])) ∧ l.P = []) := by
  obtain ⟨hk, _, _, _, _, ha, hb, hp, _, hr⟩ := h
  obtain ⟨k, to, a, b, P⟩ := l
  unfold Lne.raw at hr
  simp only at *
  rcases (show k = 1 ∨ k = 2 ∨ k = 3 ∨ k = 4 ∨ k = 5 ∨ k = 6 ∨ k = 7 ∨ k = 8 by omega) with rfl | rfl | rfl | rfl | rfl | rfl | rfl | rfl
  · refine .inl ⟨rfl, ?_, ha.resolve_left (by decide), hb.resolve_left (by decide)⟩
    rw [← hr, raw1]; rfl
  · refine .inr (.inr (.inr ⟨by omega, ?_, hp.resolve_left (by decide)⟩))
    rw [← hr, raw2]; rfl
  · refine .inr (.inr (.inr ⟨by omega, ?_, hp.resolve_left (by decide)⟩))
    rw [← hr, raw3]; rfl
  · refine .inr (.inr (.inr ⟨by omega, ?_, hp.resolve_left (by decide)⟩))
    rw [← hr, raw4]; rfl
  · refine .inr (.inr (.inr ⟨by omega, ?_, hp.resolve_left (by decide)⟩))
    rw [← hr, raw5]; rfl
  · refine .inr (.inr (.inl ⟨by omega, ?_, hb.resolve_left (by decide), hp.resolve_left (by decide)⟩))
    rw [← hr, raw6]; rfl
  · refine .inr (.inr (.inl ⟨by omega, ?_, hb.resolve_left (by decide), hp.resolve_left (by decide)⟩))
    rw [← hr, raw7]; rfl
  · refine .inr (.inl ⟨rfl, ?_, ha.resolve_left (by decide), hb.resolve_left (by decide), hp.resolve_left (by decide)⟩)
    rw [← hr, raw8]; rfl
/-- the words of a line's text. -/
theorem ln_words {l : Lne} {s : List UInt8} (h : LnOk l s) : cutB s = wdsL l.k l.to l.a l.b l.P.length (lf l.P) := by
  have t1 := sl_no h.to.1 h.to.2
  have t2 := sl_no h.a.1 h.a.2
  have t3 := sl_no h.b.1 h.b.2
  have t4 := polT_no32 h.P
  rcases raw_kinds h with ⟨e, e1, _⟩ | ⟨e, e1, _⟩ | ⟨e, e1, _⟩ | ⟨e, e1, _⟩
  · rw [e1, e, cub_app (nam_no 1), cub_app t1, cub_word t4]; rfl
  · rw [e1, e, cub_app (nam_no 8), cub_word t1]; rfl
  · rw [e1, cub_app (nam_no _), cub_app t1, cub_word t2]
    rcases e with e | e <;> rw [e] <;> rfl
  · rw [e1, cub_app (nam_no _), cub_app t1, cub_app t2, cub_word t3]
    rcases e with e | e | e | e <;> rw [e] <;> rfl
/-- an operator in a line's text is read back. -/
theorem ln_P {l : Lne} {s : List UInt8} (h : LnOk l s) (h1 : l.k = 1) : polR (polT l.P.length (lf l.P)) = (l.P, true) := by
  have hl : (polT l.P.length (lf l.P)).length ≤ 400 := by
    rcases raw_kinds h with ⟨e, e1, _⟩ | ⟨e, e1, _⟩ | ⟨e, e1, _⟩ | ⟨e, e1, _⟩
    · have := h.len
      rw [e1] at this
      simp at this
      omega
    · omega
    · omega
    · omega
  obtain ⟨L, e, hn, hf⟩ := polR_tT h.P hl
  rw [e]
  have : L = l.P := by
    apply List.ext_getElem?
    intro i
    by_cases hi : i < l.P.length
    · have e2 := hf i hi
      unfold lf at e2
      rw [List.getD_eq_getElem?_getD, List.getD_eq_getElem?_getD, List.getElem?_eq_getElem hi, List.getElem?_eq_getElem (by omega)] at e2
      rw [List.getElem?_eq_getElem hi, List.getElem?_eq_getElem (by omega)]
      exact congrArg some e2
    · rw [List.getElem?_eq_none (by omega), List.getElem?_eq_none (by omega)]
  rw [this]
/-- the program's guess. -/
def gSl (k : Int) (r : List UInt8) : Lne := ⟨k, ixW ((Lib.splitN r [32] (nmd k)).getD 0 []), if 1 < (Lib.splitN r [32] (nmd k)).length then ixW ((Lib.splitN r [32] (nmd k)).getD 1 []) else 0, if 2 < (Lib.splitN r [32] (nmd k)).length then ixW ((Lib.splitN r [32] (nmd k)).getD 2 []) else 0, []⟩
def gSt (r : List UInt8) : Lne := ⟨1, ixW (Lib.cut r [32]).1, 0, 0, (polR (Lib.cut r [32]).2.1).1⟩
def gLn (k : Int) (r : List UInt8) : Lne := if k = 1 then gSt r else gSl k r
theorem g_is {l : Lne} {s : List UInt8} (h : LnOk l s) : (Lib.cut s [32]).1 = nam l.k ∧ gLn l.k (Lib.cut s [32]).2.1 = l := by
  have t1 := sl_no h.to.1 h.to.2
  have t2 := sl_no h.a.1 h.a.2
  have t3 := sl_no h.b.1 h.b.2
  have x1 := ixW_sl h.to.1 h.to.2
  have x2 := ixW_sl h.a.1 h.a.2
  have x3 := ixW_sl h.b.1 h.b.2
  have hp := ln_P h
  rcases raw_kinds h with ⟨e, e1, e2, e3⟩ | ⟨e, e1, e2, e3, e4⟩ | ⟨e, e1, e3, e4⟩ | ⟨e, e1, e4⟩
  · rw [e1, lcut_app (nam_no 1), e]
    refine ⟨rfl, ?_⟩
    unfold gLn gSt
    rw [if_pos rfl, lcut_app t1]
    show (⟨1, ixW [slB l.to], 0, 0, (polR (polT l.P.length (lf l.P))).1⟩ : Lne) = l
    rw [x1, hp e]
    obtain ⟨k, to, a, b, P⟩ := l
    simp only at e e2 e3
    subst e e2 e3
    rfl
  · rw [e1, lcut_app (nam_no 8), e]
    refine ⟨rfl, ?_⟩
    unfold gLn gSl
    rw [if_neg (by decide), show Lib.splitN [slB l.to] [32] (nmd 8) = [[slB l.to]] from rfl]
    show (⟨8, ixW [slB l.to], 0, 0, []⟩ : Lne) = l
    rw [x1]
    obtain ⟨k, to, a, b, P⟩ := l
    simp only at e e2 e3 e4
    subst e e2 e3 e4
    rfl
  · rw [e1, lcut_app (nam_no _)]
    refine ⟨rfl, ?_⟩
    have hn : nmd l.k = 2 := by rcases e with e | e <;> rw [e] <;> rfl
    have hs : Lib.splitN ([slB l.to] ++ 32 :: [slB l.a]) [32] 2 = [[slB l.to], [slB l.a]] := by
      show Lib.splitK [32] 0 1 ([slB l.to] ++ 32 :: [slB l.a]) = _
      rw [spk_app t1 0]; rfl
    unfold gLn gSl
    rw [if_neg (by omega), hn, hs]
    show (⟨l.k, ixW [slB l.to], ixW [slB l.a], 0, []⟩ : Lne) = l
    rw [x1, x2]
    obtain ⟨k, to, a, b, P⟩ := l
    simp only at e3 e4
    subst e3 e4
    rfl
  · rw [e1, lcut_app (nam_no _)]
    refine ⟨rfl, ?_⟩
    have hn : nmd l.k = 3 := by rcases e with e | e | e | e <;> rw [e] <;> rfl
    have hs : Lib.splitN ([slB l.to] ++ 32 :: ([slB l.a] ++ 32 :: [slB l.b])) [32] 3 = [[slB l.to], [slB l.a], [slB l.b]] := by
      show Lib.splitK [32] 0 2 ([slB l.to] ++ 32 :: ([slB l.a] ++ 32 :: [slB l.b])) = _
      rw [spk_app t1 1, spk_app t2 0]; rfl
    unfold gLn gSl
    rw [if_neg (by omega), hn, hs]
    show (⟨l.k, ixW [slB l.to], ixW [slB l.a], ixW [slB l.b], []⟩ : Lne) = l
    rw [x1, x2, x3]
    obtain ⟨k, to, a, b, P⟩ := l
    simp only at e4
    subst e4
    rfl
/-- what DskRead answers. -/
def dskR (s : List UInt8) : Lne × Bool := if kn (Lib.cut s [32]).1 ≠ 0 ∧ (gLn (kn (Lib.cut s [32]).1) (Lib.cut s [32]).2.1).txt = s then (gLn (kn (Lib.cut s [32]).1) (Lib.cut s [32]).2.1, true) else (ln0, false)
theorem dskR_is {l : Lne} {s : List UInt8} (h : IsLn l s) : dskR s = (l, true) := by
  have hk := h.ok
  obtain ⟨e1, e2⟩ := g_is hk
  unfold dskR
  rw [e1, kn_nam hk.k, e2, if_pos ⟨by have := hk.k; omega, h.1⟩]
theorem dskR_no {s : List UInt8} (h : ∀ l, ¬ IsLn l s) : dskR s = (ln0, false) := by
  unfold dskR
  split
  · rename_i q
    by_cases h0 : s = []
    · subst h0
      exact absurd (by decide : kn (Lib.cut [] [32]).1 = 0) q.1
    · exact absurd ⟨q.2, h0⟩ (h _)
  · rfl
theorem dskR_true {s : List UInt8} (h : (dskR s).2 = true) : IsLn (dskR s).1 s := by
  by_cases q : ∃ l, IsLn l s
  · obtain ⟨l, hl⟩ := q
    rw [dskR_is hl]; exact hl
  · rw [dskR_no (fun l hl => q ⟨l, hl⟩)] at h
    cases h
end Go.Proofs.YtkcmamepoplcdaaGreatDoor
