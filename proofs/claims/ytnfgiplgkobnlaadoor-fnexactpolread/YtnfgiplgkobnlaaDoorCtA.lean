/-
  A text cut at each '+': words that have none, and what they are joined to.
-/
import Derived.Test.YtnfgiplgkobnlaaDoorPxA
namespace Go.Proofs.YtnfgiplgkobnlaaDoor
set_option linter.unusedVariables false
def consH (c : UInt8) : List (List UInt8) → List (List UInt8)
  | [] => [[c]]
  | h :: t => (c :: h) :: t
/-- a text cut at each '+'. -/
def cutL : List UInt8 → List (List UInt8)
  | [] => [[]]
  | c :: r => if c = 43 then [] :: cutL r else consH c (cutL r)
theorem cut_c (c : UInt8) (r : List UInt8) : cutL (c :: r) = if c = 43 then [] :: cutL r else consH c (cutL r) := rfl
/-- words joined by '+'. -/
def jnL : List (List UInt8) → List UInt8
  | [] => []
  | [w] => w
  | w :: v :: r => w ++ 43 :: jnL (v :: r)
theorem jnL_cons {w : List UInt8} {r : List (List UInt8)} (h : r ≠ []) : jnL (w :: r) = w ++ 43 :: jnL r := by
  cases r with
  | nil => exact absurd rfl h
  | cons v r => rfl
theorem cut_ne : ∀ l, cutL l ≠ []
  | [] => by simp [cutL]
  | c :: r => by
    unfold cutL
    split
    · simp
    · cases e : cutL r <;> simp [consH]
theorem jn_consH {c : UInt8} {ws : List (List UInt8)} (h : ws ≠ []) : jnL (consH c ws) = c :: jnL ws := by
  cases ws with
  | nil => exact absurd rfl h
  | cons v r =>
    cases r with
    | nil => rfl
    | cons u r => rfl
theorem jn_cut : ∀ l, jnL (cutL l) = l
  | [] => rfl
  | c :: r => by
    unfold cutL
    split
    · rename_i e
      rw [jnL_cons (cut_ne r), jn_cut r, e]; rfl
    · rw [jn_consH (cut_ne r), jn_cut r]
theorem cut_word : ∀ {w : List UInt8} (h : ∀ c ∈ w, c ≠ 43), cutL w = [w]
  | [], _ => rfl
  | c :: r, h => by
    unfold cutL
    rw [if_neg (h c (by simp)), cut_word (w := r) (fun x hx => h x (by simp [hx]))]
    rfl
theorem cut_app : ∀ {w : List UInt8} (h : ∀ c ∈ w, c ≠ 43) (r : List UInt8), cutL (w ++ 43 :: r) = w :: cutL r
  | [], _, r => by
    show cutL (43 :: r) = _
    rw [cut_c, if_pos rfl]
  | c :: w, h, r => by
    show cutL (c :: (w ++ 43 :: r)) = _
    rw [cut_c, if_neg (h c (by simp)), cut_app (w := w) (fun x hx => h x (by simp [hx])) r]
    rfl
theorem cut_jn : ∀ {ws : List (List UInt8)} (h0 : ws ≠ []) (h : ∀ w ∈ ws, ∀ c ∈ w, c ≠ 43), cutL (jnL ws) = ws
  | [], h0, _ => absurd rfl h0
  | [w], _, h => cut_word (h w (by simp))
  | w :: v :: r, _, h => by
    rw [jnL_cons (by simp), cut_app (h w (by simp)), cut_jn (ws := v :: r) (by simp) (fun x hx => h x (by simp [hx]))]
/-- as a loop goes on: one byte more. -/
def snocH (c : UInt8) : List (List UInt8) → List (List UInt8)
  | [] => [[c]]
  | [w] => [w ++ [c]]
  | w :: v :: r => w :: snocH c (v :: r)
theorem snocH_cons {c : UInt8} {w : List UInt8} {r : List (List UInt8)} (h : r ≠ []) : snocH c (w :: r) = w :: snocH c r := by
  cases r with
  | nil => exact absurd rfl h
  | cons v r => rfl
theorem snocH_app (c : UInt8) : ∀ (o : List (List UInt8)) (w : List UInt8), snocH c (o ++ [w]) = o ++ [w ++ [c]]
  | [], w => rfl
  | v :: o, w => by
    show snocH c (v :: (o ++ [w])) = _
    rw [snocH_cons (by simp), snocH_app c o w]; rfl
theorem consH_app {c : UInt8} {a b : List (List UInt8)} (h : a ≠ []) : consH c (a ++ b) = consH c a ++ b := by
  cases a with
  | nil => exact absurd rfl h
  | cons v r => rfl
theorem consH_snocH {c k : UInt8} {a : List (List UInt8)} (h : a ≠ []) : consH c (snocH k a) = snocH k (consH c a) := by
  cases a with
  | nil => exact absurd rfl h
  | cons v r =>
    cases r with
    | nil => rfl
    | cons u r => rfl
theorem cut_plus : ∀ l, cutL (l ++ [43]) = cutL l ++ [[]]
  | [] => by decide
  | c :: r => by
    show cutL (c :: (r ++ [43])) = _
    unfold cutL
    rw [cut_plus r]
    split
    · rfl
    · exact consH_app (cut_ne r)
theorem cut_more {k : UInt8} (hk : k ≠ 43) : ∀ l, cutL (l ++ [k]) = snocH k (cutL l)
  | [] => by
    show cutL [k] = _
    unfold cutL
    rw [if_neg hk]
    rfl
  | c :: r => by
    show cutL (c :: (r ++ [k])) = _
    unfold cutL
    rw [cut_more hk r]
    split
    · rw [snocH_cons (cut_ne r)]
    · exact consH_snocH (cut_ne r)
end Go.Proofs.YtnfgiplgkobnlaaDoor
