/-
  What a row's list says of the program's table of words.
  A text cut at each '+': words that have none, and what they are joined to.
  The text of an operator, cut at each '+', is the texts of its terms.
-/
import Derived.Test.YtkcmamepoplcdaaGreatDoorGam
import Derived.LaidMore
import Derived.Stop.LaidErr
import Derived.OpenShut
import Derived.ChangeArms
import Derived.Test.YtkcmamepoplcdaaGreatDoorGac
import Derived.Test.YtkcmamepoplcdaaGreatDoorGae
namespace Go.Proofs.YtkcmamepoplcdaaGreatDoor
open Go.RowKit
set_option linter.unusedVariables false
set_option linter.unusedSimpArgs false
theorem wordsNamed : Tryz.prog.globalNamed "loop.example/selvedge/impl.dskWords" = some 0 := by kernel_rfl
theorem wordsType : (Tryz.prog.globals[0]?).map (·.type) = some 67 := by kernel_rfl
def wordsA : Array Value := #[.string ⟨#[]⟩, .string ⟨#[115, 101, 116]⟩, .string ⟨#[97, 100, 100]⟩, .string ⟨#[109, 117, 108]⟩, .string ⟨#[97, 112, 97, 114, 116]⟩, .string ⟨#[100, 111]⟩, .string ⟨#[114, 111, 117, 110, 100]⟩, .string ⟨#[98, 97, 99, 107]⟩, .string ⟨#[115, 104, 111, 119]⟩]
set_option maxRecDepth 100000 in
/-- an array of texts that reads so holds these texts. -/
theorem words_cells {H : Type} {enc : TypeId × Value → H} {w : World} {base : Nat} {sp : Nat → Bool} {held : Bool} {fuel : Nat} {cs : List Value} {p : List MemPlace}
    (h : DataW.trod enc Tryz.prog w base sp held fuel 67 cs = some (Rows.laid_loop_example_selvedge_impl_dskWords, p)) : cs = wordsA.toList := by
  obtain ⟨xs, m, hk, hx, hl, hlen, hf⟩ := DataW.trod_array Tryz.underlying67 h
  have hc9 : Tryz.prog.cellsOf 67 = 9 := by kernel_rfl
  have hc1 : Tryz.prog.cellsOf 9 = 1 := by kernel_rfl
  rw [hc9] at hl
  simp only [hc1, Nat.mul_one] at hf
  have hm : xs.map (·.1) = [.lit (.string []), .lit (.string [115, 101, 116]), .lit (.string [97, 100, 100]), .lit (.string [109, 117, 108]), .lit (.string [97, 112, 97, 114, 116]), .lit (.string [100, 111]), .lit (.string [114, 111, 117, 110, 100]), .lit (.string [98, 97, 99, 107]), .lit (.string [115, 104, 111, 119])] := by
    have h1 := congrArg Prod.fst hx
    have h2 : (DataW.agg [.lit (.string []), .lit (.string [115, 101, 116]), .lit (.string [97, 100, 100]), .lit (.string [109, 117, 108]), .lit (.string [97, 112, 97, 114, 116]), .lit (.string [100, 111]), .lit (.string [114, 111, 117, 110, 100]), .lit (.string [98, 97, 99, 107]), .lit (.string [115, 104, 111, 119])] : DataW H) = DataW.agg (xs.map (·.1)) := h1
    injection h2 with h3
    exact h3.symm
  have key : ∀ (i : Nat) (bytes : List UInt8), i < 9 → (xs.map (·.1))[i]? = some (.lit (.string bytes)) → cs[i]? = some (.string ⟨bytes.toArray⟩) := fun i bytes hi hb => by
    rw [List.getElem?_map] at hb
    cases hy : xs[i]? with
    | none => rw [hy] at hb; cases hb
    | some y =>
      rw [hy] at hb
      have h1 := hf i hi
      rw [hy] at h1
      obtain ⟨s, e1, e2, _⟩ := DataW.trod_string Tryz.underlying9 h1
      rw [e2] at hb
      have h3 : s.data.toList = bytes := by
        simp at hb
        exact hb
      have h4 := congrArg (·[0]?) e1
      simp [List.getElem?_drop] at h4
      rw [h4, ← h3]
  rw [hm] at key
  apply List.ext_getElem?
  intro i
  by_cases hi : i < 9
  · rcases (show i = 0 ∨ i = 1 ∨ i = 2 ∨ i = 3 ∨ i = 4 ∨ i = 5 ∨ i = 6 ∨ i = 7 ∨ i = 8 by omega) with rfl | rfl | rfl | rfl | rfl | rfl | rfl | rfl | rfl
    all_goals (rw [key _ _ hi rfl]; rfl)
  · rw [List.getElem?_eq_none (by omega), List.getElem?_eq_none (by show 9 ≤ i; omega)]
theorem dw_of {W : World} (h : W.var? Tryz.prog "loop.example/selvedge/impl.dskWords" = some wordsA) : Dw W := fun k h1 h8 => by
  unfold World.var? at h
  rw [wordsNamed] at h
  simp only [Option.bind_some] at h
  cases hb : W.heap[0]? with
  | none => rw [hb] at h; simp at h
  | some o =>
    rw [hb] at h
    cases o with
    | cells c t fr =>
      simp at h
      subst h
      rw [cell_of_row W 0 k _ _ _ hb]
      rcases (show k = 1 ∨ k = 2 ∨ k = 3 ∨ k = 4 ∨ k = 5 ∨ k = 6 ∨ k = 7 ∨ k = 8 by omega) with rfl | rfl | rfl | rfl | rfl | rfl | rfl | rfl <;> rfl
    | _ => simp at h
theorem dw_list {W : World} {a b c : String × DataW Unit} {r : List (String × DataW Unit)} (h : laidMet Tryz.prog (a :: b :: c :: ("loop.example/selvedge/impl.dskWords", Rows.laid_loop_example_selvedge_impl_dskWords) :: r) W) : W.var? Tryz.prog "loop.example/selvedge/impl.dskWords" = some wordsA := by
  have h1 := h.tail.tail.tail
  obtain ⟨ps, ⟨g1, t1, cs1, fuel1, p1, q1, hg1, ht1, hv1, hd1, _, _⟩, _⟩ := h1
  obtain rfl := Option.some.inj (wordsNamed.symm.trans hg1)
  obtain rfl := Option.some.inj (wordsType.symm.trans ht1)
  rw [hv1]
  congr 1
  exact Array.toList_inj.1 (words_cells hd1)
end Go.Proofs.YtkcmamepoplcdaaGreatDoor
namespace Go.Proofs.YtkcmamepoplcdaaGreatDoor
set_option linter.unusedVariables false
def consH (c : UInt8) : List (List UInt8) → List (List UInt8)
  | [] => [[c]]
  | h :: t => (c :: h) :: t
/-- a text cut at each '+'. -/
def cutL : List UInt8 → List (List UInt8)
  | [] => [[]]
  | c :: r => if c = 43 then [] :: cutL r else consH c (cutL r)
theorem cut_c (c : UInt8) (r : List UInt8) : cutL (c :: r) = if c = 43 then [] :: cutL r else consH c (cutL r) := rfl
/-- words joined by '+'. -/
def jnL : List (List UInt8) → List UInt8
  | [] => []
  | [w] => w
  | w :: v :: r => w ++ 43 :: jnL (v :: r)
theorem jnL_cons {w : List UInt8} {r : List (List UInt8)} (h : r ≠ []) : jnL (w :: r) = w ++ 43 :: jnL r := by
  cases r with
  | nil => exact absurd rfl h
  | cons v r => rfl
theorem cut_ne : ∀ l, cutL l ≠ []
  | [] => by simp [cutL]
  | c :: r => by
    unfold cutL
    split
    · simp
    · cases e : cutL r <;> simp [consH]
theorem jn_consH {c : UInt8} {ws : List (List UInt8)} (h : ws ≠ []) : jnL (consH c ws) = c :: jnL ws := by
  cases ws with
  | nil => exact absurd rfl h
  | cons v r =>
    cases r with
    | nil => rfl
    | cons u r => rfl
theorem jn_cut : ∀ l, jnL (cutL l) = l
  | [] => rfl
  | c :: r => by
    unfold cutL
    split
    · rename_i e
      rw [jnL_cons (cut_ne r), jn_cut r, e]; rfl
    · rw [jn_consH (cut_ne r), jn_cut r]
theorem cut_word : ∀ {w : List UInt8} (h : ∀ c ∈ w, c ≠ 43), cutL w = [w]
  | [], _ => rfl
  | c :: r, h => by
    unfold cutL
    rw [if_neg (h c (by simp)), cut_word (w := r) (fun x hx => h x (by simp [hx]))]
    rfl
theorem cut_app : ∀ {w : List UInt8} (h : ∀ c ∈ w, c ≠ 43) (r : List UInt8), cutL (w ++ 43 :: r) = w :: cutL r
  | [], _, r => by
    show cutL (43 :: r) = _
    rw [cut_c, if_pos rfl]
  | c :: w, h, r => by
    show cutL (c :: (w ++ 43 :: r)) = _
    rw [cut_c, if_neg (h c (by simp)), cut_app (w := w) (fun x hx => h x (by simp [hx])) r]
    rfl
theorem cut_jn : ∀ {ws : List (List UInt8)} (h0 : ws ≠ []) (h : ∀ w ∈ ws, ∀ c ∈ w, c ≠ 43), cutL (jnL ws) = ws
  | [], h0, _ => absurd rfl h0
  | [w], _, h => cut_word (h w (by simp))
  | w :: v :: r, _, h => by
    rw [jnL_cons (by simp), cut_app (h w (by simp)), cut_jn (ws := v :: r) (by simp) (fun x hx => h x (by simp [hx]))]
/-- as a loop goes on: one byte more. -/
def snocH (c : UInt8) : List (List UInt8) → List (List UInt8)
  | [] => [[c]]
  | [w] => [w ++ [c]]
  | w :: v :: r => w :: snocH c (v :: r)
theorem snocH_cons {c : UInt8} {w : List UInt8} {r : List (List UInt8)} (h : r ≠ []) : snocH c (w :: r) = w :: snocH c r := by
  cases r with
  | nil => exact absurd rfl h
  | cons v r => rfl
theorem snocH_app (c : UInt8) : ∀ (o : List (List UInt8)) (w : List UInt8), snocH c (o ++ [w]) = o ++ [w ++ [c]]
  | [], w => rfl
  | v :: o, w => by
    show snocH c (v :: (o ++ [w])) = _
    rw [snocH_cons (by simp), snocH_app c o w]; rfl
theorem consH_app {c : UInt8} {a b : List (List UInt8)} (h : a ≠ []) : consH c (a ++ b) = consH c a ++ b := by
  cases a with
  | nil => exact absurd rfl h
  | cons v r => rfl
theorem consH_snocH {c k : UInt8} {a : List (List UInt8)} (h : a ≠ []) : consH c (snocH k a) = snocH k (consH c a) := by
  cases a with
  | nil => exact absurd rfl h
  | cons v r =>
    cases r with
    | nil => rfl
    | cons u r => rfl
theorem cut_plus : ∀ l, cutL (l ++ [43]) = cutL l ++ [[]]
  | [] => by decide
  | c :: r => by
    show cutL (c :: (r ++ [43])) = _
    unfold cutL
    rw [cut_plus r]
    split
    · rfl
    · exact consH_app (cut_ne r)
theorem cut_more {k : UInt8} (hk : k ≠ 43) : ∀ l, cutL (l ++ [k]) = snocH k (cutL l)
  | [] => by
    show cutL [k] = _
    unfold cutL
    rw [if_neg hk]
    rfl
  | c :: r => by
    show cutL (c :: (r ++ [k])) = _
    unfold cutL
    rw [cut_more hk r]
    split
    · rw [snocH_cons (cut_ne r)]
    · exact consH_snocH (cut_ne r)
end Go.Proofs.YtkcmamepoplcdaaGreatDoor
namespace Go.Proofs.YtkcmamepoplcdaaGreatDoor
set_option linter.unusedVariables false
theorem isD_no {c : UInt8} (h : isD c = true) : c ≠ 43 := by
  rintro rfl
  revert h
  decide
theorem fpw_no {k : UInt8} {n : Int} (hk : k ≠ 43) (hn : n ≤ 100) : ∀ c ∈ fpw k n, c ≠ 43 := by
  intro c hc
  unfold fpw at hc
  split at hc
  · cases hc
  · split at hc
    · simp at hc; rw [hc]; exact hk
    · rcases List.mem_cons.1 hc with h | h
      · rw [h]; exact hk
      · exact isD_no (dec_isD _ (by omega) c h)
theorem monT_no43 {m : M} (h : M.ok m = true) : ∀ c ∈ monT m, c ≠ 43 := by
  intro c hc
  by_cases h0 : monS m = []
  · rw [monT_one h h0] at hc
    simp at hc
    rw [hc]
    decide
  · rw [monT_is h h0, monS_is] at hc
    obtain ⟨x1, x2, y1, y2, d1, d2, e1, e2⟩ := M.ok_iff.1 h
    simp only [List.mem_append] at hc
    rcases hc with ((hc | hc) | hc) | hc
    · exact fpw_no (by decide) (by omega) c hc
    · exact fpw_no (by decide) (by omega) c hc
    · exact fpw_no (by decide) (by omega) c hc
    · exact fpw_no (by decide) (by omega) c hc
theorem trm_no43 {t : T} (hc : t.c ≤ 100) (h : M.ok t.m = true) : ∀ c ∈ trmT t, c ≠ 43 := by
  intro c h1
  have hd : ∀ c ∈ dcD t.c, c ≠ 43 := fun c h2 => isD_no (dec_isD _ (by omega) c h2)
  unfold trmT at h1
  split at h1
  · exact hd c h1
  · split at h1
    · exact monT_no43 h c h1
    · rcases List.mem_append.1 h1 with q | q
      · exact hd c q
      · exact monT_no43 h c q
theorem jnL_snoc : ∀ {ws : List (List UInt8)} (h : ws ≠ []) (w : List UInt8), jnL (ws ++ [w]) = jnL ws ++ 43 :: w
  | [], h, _ => absurd rfl h
  | [v], _, w => rfl
  | v :: u :: r, _, w => by
    show jnL (v :: ((u :: r) ++ [w])) = _
    rw [jnL_cons (by simp), jnL_snoc (ws := u :: r) (by simp) w, jnL_cons (w := v) (r := u :: r) (by simp), List.append_assoc]
    rfl
/-- the words of the first k terms. -/
def wrds (f : Nat → T) : Nat → List (List UInt8)
  | 0 => []
  | k + 1 => wrds f k ++ [trmT (f k)]
theorem wrds_len (f : Nat → T) : ∀ k, (wrds f k).length = k
  | 0 => rfl
  | k + 1 => by unfold wrds; simp [wrds_len f k]
theorem jn_wrds (f : Nat → T) : ∀ k, jnL (wrds f k) = jnT f k
  | 0 => rfl
  | k + 1 => by
    by_cases h : k = 0
    · subst h; simp [wrds, jnT, jnL]
    · have hne : wrds f k ≠ [] := fun e => h (by have := wrds_len f k; rw [e] at this; simpa using this.symm)
      unfold wrds jnT
      rw [jnL_snoc hne, jn_wrds f k, if_neg h]
      simp
theorem wrds_no {f : Nat → T} : ∀ k, (∀ i, i < k → (f i).c ≤ 100 ∧ M.ok (f i).m = true) → ∀ w ∈ wrds f k, ∀ c ∈ w, c ≠ 43
  | 0, _ => fun w hw => by cases hw
  | k + 1, h => fun w hw => by
    unfold wrds at hw
    rcases List.mem_append.1 hw with q | q
    · exact wrds_no k (fun i hi => h i (by omega)) w q
    · simp at q
      rw [q]
      exact trm_no43 (h k (by omega)).1 (h k (by omega)).2
/-- the text of an operator that is not 0, cut. -/
theorem cut_polT {n : Nat} {f : Nat → T} (h : polOk n f = true) (h0 : n ≠ 0) : cutL (polT n f) = wrds f n := by
  have hk := (polOk_is h).2
  rw [polT_is h h0, ← jn_wrds, cut_jn (fun e => h0 (by have := wrds_len f n; rw [e] at this; simpa using this.symm)) (wrds_no n (fun i hi => ⟨(hk i hi).1.2, (hk i hi).2⟩))]
end Go.Proofs.YtkcmamepoplcdaaGreatDoor
