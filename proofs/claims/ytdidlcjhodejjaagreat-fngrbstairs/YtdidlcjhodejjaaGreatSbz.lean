/-
  Pair by pair until none is left, or something is too much: (*impl.grbMaking).lookAtAll.
  A basis is made: the program's GrbMake.
  The least basis, as lists: who is needed, in which order, and what is left of each by the others.
-/
import Derived.Test.YtdidlcjhodejjaaGreatSby
import Derived.Test.YtdidlcjhodejjaaGreatSbo
import Derived.Test.YtdidlcjhodejjaaGreatSbm
namespace Go.Proofs.YtdidlcjhodejjaaGreat
open Go.RowKit Go.Deep Go.Joins
set_option linter.unusedVariables false

end Go.Proofs.YtdidlcjhodejjaaGreat
namespace Go.Proofs.YtdidlcjhodejjaaGreat
open Go.RowKit Go.Deep Go.Joins
set_option linter.unusedVariables false

end Go.Proofs.YtdidlcjhodejjaaGreat
namespace Go.Proofs.YtdidlcjhodejjaaGreat
open Go.RowKit Go.Deep Go.Joins
set_option linter.unusedVariables false

abbrev Lof (l : List (List T)) : Nat → List T := fun i => l.getD i []
/-- all but one. -/
def othL {α : Type} (l : List α) (i : Nat) : List α := l.take i ++ l.drop (i + 1)
/-- one in another's place. -/
def putL {α : Type} (l : List α) (i : Nat) (y : α) : List α := l.take i ++ y :: l.drop (i + 1)
/-- no other greatest monomial divides this one; of some that are the same the first one is needed. -/
def need (k : Nat → M) (n i : Nat) : Bool := decide (∀ j, j < n → ¬ (j ≠ i ∧ M.dvd (k j) (k i) = true ∧ (meqB (k j) (k i) = false ∨ j < i)))
def selN {α : Type} (nd : Nat → Bool) (f : Nat → α) : Nat → List α
  | 0 => []
  | j + 1 => if nd j = true then selN nd f j ++ [f j] else selN nd f j
def insN {α : Type} (lt : α → α → Bool) (x : α) : List α → List α
  | [] => [x]
  | y :: r => if lt x y = true then x :: y :: r else y :: insN lt x r
def srtN {α : Type} (lt : α → α → Bool) : List α → List α → List α
  | acc, [] => acc
  | acc, x :: r => srtN lt (insN lt x acc) r
def ltO (o : Int) (A B : List T) : Bool := decide (rkW o (ldL o A).m < rkW o (ldL o B).m)
theorem ord_lt {o : Int} {a b : M} (ho : 1 ≤ o ∧ o ≤ 3) (ha : a.ok = true) (hb : b.ok = true) : M.ord o a b < 0 ↔ rkW o a < rkW o b := by
  rw [rkW_ord ho ha hb]
  unfold c3
  split
  · simp_all
  · split <;> simp_all
theorem ldL_ok {o : Int} {A : List T} (h : okL A = true ∧ A.length ≠ 0) : (ldL o A).m.ok = true := (ldL_good (okL_falls h.1).2 h.2).1
def monL (o : Int) (R : List T) : List T := scV (fInv (ldL o R).c) R
/-- what is left of one by others, with 1 times its greatest monomial. -/
def lftL (o : Int) (p : List T) (oth : List (List T)) : Option (List T) :=
  match redAll o p oth.length (lN (Lof oth)) (fN (Lof oth)) with
  | some S => if S.r.length = 0 then none else some (monL o S.r)
  | none => none
def lstRun (o : Int) : Nat → Nat → List (List T) → Option (List (List T))
  | 0, _, l => some l
  | u + 1, i, l => match lftL o (Lof l i) (othL l i) with
    | none => none
    | some Y => lstRun o u (i + 1) (putL l i Y)
def leastL (o : Int) (n : Nat) (L : Nat → List T) : List (List T) := srtN (ltO o) [] (selN (need (fun i => (ldL o (L i)).m) n) L n)
/-- what GrbLeast answers; none, if it is too much. -/
def grbLeast (o : Int) (n : Nat) (L : Nat → List T) : Option (List (List T)) :=
  if (1 ≤ o ∧ o ≤ 3) ∧ lstOk n (lN L) (fN L) = true then lstRun o (leastL o n L).length 0 (leastL o n L) else none
theorem lstRun_no {o : Int} {u i : Nat} {l : List (List T)} (h : lftL o (Lof l i) (othL l i) = none) : lstRun o (u + 1) i l = none := by
  show (match lftL o (Lof l i) (othL l i) with | none => none | some Y => lstRun o u (i + 1) (putL l i Y)) = none
  rw [h]
theorem lstRun_yes {o : Int} {u i : Nat} {l : List (List T)} {Y : List T} (h : lftL o (Lof l i) (othL l i) = some Y) : lstRun o (u + 1) i l = lstRun o u (i + 1) (putL l i Y) := by
  show (match lftL o (Lof l i) (othL l i) with | none => none | some Y => lstRun o u (i + 1) (putL l i Y)) = _
  rw [h]
theorem selN_map {α β : Type} (g : α → β) (nd : Nat → Bool) (f : Nat → α) : ∀ n, (selN nd f n).map g = selN nd (fun i => g (f i)) n
  | 0 => rfl
  | n + 1 => by
    unfold selN
    split
    · rw [List.map_append, selN_map g nd f n]; rfl
    · exact selN_map g nd f n
theorem selN_mem {α : Type} {nd : Nat → Bool} {f : Nat → α} {x : α} : ∀ {n}, x ∈ selN nd f n → ∃ i, i < n ∧ nd i = true ∧ x = f i
  | 0, h => by cases h
  | n + 1, h => by
    unfold selN at h
    split at h
    · rename_i hn
      rcases List.mem_append.1 h with h | h
      · obtain ⟨i, h1, h2, h3⟩ := selN_mem h; exact ⟨i, by omega, h2, h3⟩
      · exact ⟨n, by omega, hn, by simpa using h⟩
    · obtain ⟨i, h1, h2, h3⟩ := selN_mem h; exact ⟨i, by omega, h2, h3⟩
theorem selN_len {α : Type} (nd : Nat → Bool) (f : Nat → α) : ∀ n, (selN nd f n).length ≤ n
  | 0 => Nat.le_refl _
  | n + 1 => by
    have := selN_len nd f n
    unfold selN
    split
    · simp; omega
    · omega
theorem insN_map {α β : Type} (g : α → β) (lt : β → β → Bool) (x : α) : ∀ l : List α, (insN (fun a b => lt (g a) (g b)) x l).map g = insN lt (g x) (l.map g)
  | [] => rfl
  | y :: r => by
    show (if lt (g x) (g y) = true then x :: y :: r else y :: insN (fun a b => lt (g a) (g b)) x r).map g = if lt (g x) (g y) = true then g x :: g y :: r.map g else g y :: insN lt (g x) (r.map g)
    split
    · rfl
    · rw [List.map_cons, insN_map g lt x r]
theorem srtN_map {α β : Type} (g : α → β) (lt : β → β → Bool) : ∀ (l acc : List α), (srtN (fun a b => lt (g a) (g b)) acc l).map g = srtN lt (acc.map g) (l.map g)
  | [], acc => rfl
  | x :: r, acc => by
    show (srtN (fun a b => lt (g a) (g b)) (insN (fun a b => lt (g a) (g b)) x acc) r).map g = srtN lt (insN lt (g x) (acc.map g)) (r.map g)
    rw [srtN_map g lt r, insN_map]
theorem insN_mem {α : Type} {lt : α → α → Bool} {x z : α} : ∀ {l : List α}, z ∈ insN lt x l ↔ z = x ∨ z ∈ l
  | [] => by simp [insN]
  | y :: r => by
    unfold insN
    split
    · simp
    · simp only [List.mem_cons, insN_mem (l := r)]
      constructor
      · rintro (h | h | h)
        · exact .inr (.inl h)
        · exact .inl h
        · exact .inr (.inr h)
      · rintro (h | h | h)
        · exact .inr (.inl h)
        · exact .inl h
        · exact .inr (.inr h)
theorem insN_len {α : Type} (lt : α → α → Bool) (x : α) : ∀ l : List α, (insN lt x l).length = l.length + 1
  | [] => rfl
  | y :: r => by
    unfold insN
    split
    · rfl
    · show (insN lt x r).length + 1 = _; rw [insN_len lt x r]; rfl
theorem srtN_mem {α : Type} {lt : α → α → Bool} {z : α} : ∀ {l acc : List α}, z ∈ srtN lt acc l ↔ z ∈ acc ∨ z ∈ l
  | [], acc => by simp [srtN]
  | x :: r, acc => by
    show z ∈ srtN lt (insN lt x acc) r ↔ _
    rw [srtN_mem (l := r), insN_mem]
    simp only [List.mem_cons]
    constructor
    · rintro ((h | h) | h)
      · exact .inr (.inl h)
      · exact .inl h
      · exact .inr (.inr h)
    · rintro (h | h | h)
      · exact .inl (.inr h)
      · exact .inl (.inl h)
      · exact .inr h
theorem srtN_len {α : Type} (lt : α → α → Bool) : ∀ l acc : List α, (srtN lt acc l).length = acc.length + l.length
  | [], acc => rfl
  | x :: r, acc => by
    show (srtN lt (insN lt x acc) r).length = _
    rw [srtN_len lt r, insN_len]
    show acc.length + 1 + r.length = acc.length + (r.length + 1)
    omega
theorem putL_len {α : Type} {l : List α} {i : Nat} {y : α} (h : i < l.length) : (putL l i y).length = l.length := by
  unfold putL
  rw [List.length_append, List.length_take, List.length_cons, List.length_drop]
  omega
theorem othL_len {α : Type} {l : List α} {i : Nat} (h : i < l.length) : (othL l i).length = l.length - 1 := by
  unfold othL
  rw [List.length_append, List.length_take, List.length_drop]
  omega
theorem putL_map {α β : Type} (g : α → β) (l : List α) (i : Nat) (y : α) : (putL l i y).map g = putL (l.map g) i (g y) := by
  unfold putL
  rw [List.map_append, List.map_cons, List.map_take, List.map_drop]
theorem othL_map {α β : Type} (g : α → β) (l : List α) (i : Nat) : (othL l i).map g = othL (l.map g) i := by
  unfold othL
  rw [List.map_append, List.map_take, List.map_drop]
theorem putL_mem {α : Type} {l : List α} {i : Nat} {x y : α} (h : x ∈ putL l i y) : x = y ∨ x ∈ l := by
  rcases List.mem_append.1 h with h | h
  · exact .inr (List.mem_of_mem_take h)
  · rcases List.mem_cons.1 h with h | h
    · exact .inl h
    · exact .inr (List.mem_of_mem_drop h)
theorem putL_set {α : Type} {l : List α} {i : Nat} {y : α} (h : i < l.length) : putL l i y = l.set i y := by
  unfold putL
  rw [List.set_eq_take_append_cons_drop, if_pos h]
/-- operators that are ok, none of them 0. -/
def okA (l : List (List T)) : Prop := ∀ p ∈ l, okL p = true ∧ p.length ≠ 0
theorem lof_mem {l : List (List T)} {i : Nat} (h : i < l.length) : Lof l i ∈ l := by
  show l.getD i [] ∈ l
  rw [List.getD_eq_getElem?_getD, List.getElem?_eq_getElem h]
  exact List.getElem_mem h
theorem okA_lst {l : List (List T)} (h : okA l) (h12 : l.length ≤ 12) : lstOk l.length (lN (Lof l)) (fN (Lof l)) = true :=
  decide_eq_true ⟨h12, fun i hi => ⟨(h _ (lof_mem hi)).2, (h _ (lof_mem hi)).1⟩⟩
theorem lst_okA {n : Nat} {L : Nat → List T} (h : lstOk n (lN L) (fN L) = true) {nd : Nat → Bool} : okA (selN nd L n) := fun p hp => by
  obtain ⟨i, hi, _, rfl⟩ := selN_mem hp
  exact ⟨((lstOk_all h).2 i hi).2, ((lstOk_all h).2 i hi).1⟩
theorem leastL_ok {o : Int} {n : Nat} {L : Nat → List T} (h : lstOk n (lN L) (fN L) = true) : okA (leastL o n L) ∧ (leastL o n L).length ≤ 12 := by
  refine ⟨fun p hp => ?_, ?_⟩
  · rcases srtN_mem.1 hp with h1 | h1
    · cases h1
    · exact lst_okA h p h1
  · unfold leastL
    rw [srtN_len]
    have h1 := selN_len (need (fun i => (ldL o (L i)).m) n) L n
    have h2 := (lstOk_all h).1
    simp only [List.length_nil]
    omega
theorem monL_ok {o : Int} {R : List T} (h : okL R = true) (h0 : R.length ≠ 0) : okL (monL o R) = true ∧ (monL o R).length = R.length ∧ monL o R = scL (fInv (ldL o R).c) R := by
  obtain ⟨_, c1, c2⟩ := ldL_good (o := o) (okL_falls h).2 h0
  have p1 := fInv_pos c1 c2
  have p2 := (fInv_bd (ldL o R).c).2
  have e : monL o R = scL (fInv (ldL o R).c) R := scV_is p1 p2 h
  refine ⟨?_, ?_, e⟩
  · rw [e]; exact okL_of (by rw [scL_len]; exact (okL_falls h).1) (scL_falls p1 p2 (okL_falls h).2)
  · rw [e, scL_len]
theorem redAll_rest {o : Int} {p : List T} {n : Nat} {ln : Nat → Nat} {f : Nat → Nat → T} {S : Dv} (h : redAll o p n ln f = some S) : okL S.r = true ∧ S.r.length ≤ 300 := by
  unfold redAll at h
  split at h
  · rename_i hh
    obtain ⟨h1, _⟩ := dvRun_ok hh.2.2 (DvOk.start hh.2.1) h
    have := h1.r.2
    exact ⟨okL_of (by omega) h1.r.1, by omega⟩
  · cases h
theorem lftL_ok {o : Int} {p : List T} {oth : List (List T)} {Y : List T} (h : lftL o p oth = some Y) : okL Y = true ∧ Y.length ≠ 0 := by
  unfold lftL at h
  split at h
  · rename_i S hS
    split at h
    · cases h
    · rename_i h0
      cases h
      have h1 := redAll_rest hS
      have h2 := monL_ok (o := o) h1.1 h0
      exact ⟨h2.1, by rw [h2.2.1]; exact h0⟩
  · cases h
theorem putL_ok {l : List (List T)} {i : Nat} {Y : List T} (h : okA l) (hY : okL Y = true ∧ Y.length ≠ 0) : okA (putL l i Y) := fun p hp => by
  rcases putL_mem hp with rfl | h1
  · exact hY
  · exact h p h1
end Go.Proofs.YtdidlcjhodejjaaGreat
