/-
  What a row's list says of the program's table of words.
-/
import Derived.Test.YtoglomfejgpoeaaDoorDkJ
import Derived.LaidMore
import Derived.Stop.LaidErr
import Derived.OpenShut
import Derived.ChangeArms
namespace Go.Proofs.YtoglomfejgpoeaaDoor
open Go.RowKit
set_option linter.unusedVariables false
set_option linter.unusedSimpArgs false
theorem wordsNamed : Tryd.prog.globalNamed "loop.example/selvedge/impl.dskWords" = some 0 := by kernel_rfl
theorem wordsType : (Tryd.prog.globals[0]?).map (·.type) = some 43 := by kernel_rfl
def wordsA : Array Value := #[.string ⟨#[]⟩, .string ⟨#[115, 101, 116]⟩, .string ⟨#[97, 100, 100]⟩, .string ⟨#[109, 117, 108]⟩, .string ⟨#[97, 112, 97, 114, 116]⟩, .string ⟨#[100, 111]⟩, .string ⟨#[114, 111, 117, 110, 100]⟩, .string ⟨#[98, 97, 99, 107]⟩, .string ⟨#[115, 104, 111, 119]⟩]
/-- an array of texts that reads so holds these texts. -/
theorem words_cells {H : Type} {enc : TypeId × Value → H} {w : World} {base : Nat} {sp : Nat → Bool} {held : Bool} {fuel : Nat} {cs : List Value} {p : List MemPlace}
    (h : DataW.trod enc Tryd.prog w base sp held fuel 43 cs = some (Rows.laid_loop_example_selvedge_impl_dskWords, p)) : cs = wordsA.toList := by
  obtain ⟨xs, m, hk, hx, hl, hlen, hf⟩ := DataW.trod_array Tryd.underlying43 h
  have hc9 : Tryd.prog.cellsOf 43 = 9 := by kernel_rfl
  have hc1 : Tryd.prog.cellsOf 9 = 1 := by kernel_rfl
  rw [hc9] at hl
  simp only [hc1, Nat.mul_one] at hf
  have hm : xs.map (·.1) = [.lit (.string []), .lit (.string [115, 101, 116]), .lit (.string [97, 100, 100]), .lit (.string [109, 117, 108]), .lit (.string [97, 112, 97, 114, 116]), .lit (.string [100, 111]), .lit (.string [114, 111, 117, 110, 100]), .lit (.string [98, 97, 99, 107]), .lit (.string [115, 104, 111, 119])] := by
    have h1 := congrArg Prod.fst hx
    have h2 : (DataW.agg [.lit (.string []), .lit (.string [115, 101, 116]), .lit (.string [97, 100, 100]), .lit (.string [109, 117, 108]), .lit (.string [97, 112, 97, 114, 116]), .lit (.string [100, 111]), .lit (.string [114, 111, 117, 110, 100]), .lit (.string [98, 97, 99, 107]), .lit (.string [115, 104, 111, 119])] : DataW H) = DataW.agg (xs.map (·.1)) := h1
    injection h2 with h3
    exact h3.symm
  have key : ∀ (i : Nat) (bytes : List UInt8), i < 9 → (xs.map (·.1))[i]? = some (.lit (.string bytes)) → cs[i]? = some (.string ⟨bytes.toArray⟩) := fun i bytes hi hb => by
    rw [List.getElem?_map] at hb
    cases hy : xs[i]? with
    | none => rw [hy] at hb; cases hb
    | some y =>
      rw [hy] at hb
      have h1 := hf i hi
      rw [hy] at h1
      obtain ⟨s, e1, e2, _⟩ := DataW.trod_string Tryd.underlying9 h1
      rw [e2] at hb
      have h3 : s.data.toList = bytes := by
        simp at hb
        exact hb
      have h4 := congrArg (·[0]?) e1
      simp [List.getElem?_drop] at h4
      rw [h4, ← h3]
  rw [hm] at key
  apply List.ext_getElem?
  intro i
  by_cases hi : i < 9
  · rcases (show i = 0 ∨ i = 1 ∨ i = 2 ∨ i = 3 ∨ i = 4 ∨ i = 5 ∨ i = 6 ∨ i = 7 ∨ i = 8 by omega) with rfl | rfl | rfl | rfl | rfl | rfl | rfl | rfl | rfl
    all_goals (rw [key _ _ hi rfl]; rfl)
  · rw [List.getElem?_eq_none (by omega), List.getElem?_eq_none (by show 9 ≤ i; omega)]
theorem dw_of {W : World} (h : W.var? Tryd.prog "loop.example/selvedge/impl.dskWords" = some wordsA) : Dw W := fun k h1 h8 => by
  unfold World.var? at h
  rw [wordsNamed] at h
  simp only [Option.bind_some] at h
  cases hb : W.heap[0]? with
  | none => rw [hb] at h; simp at h
  | some o =>
    rw [hb] at h
    cases o with
    | cells c t fr =>
      simp at h
      subst h
      rw [cell_of_row W 0 k _ _ _ hb]
      rcases (show k = 1 ∨ k = 2 ∨ k = 3 ∨ k = 4 ∨ k = 5 ∨ k = 6 ∨ k = 7 ∨ k = 8 by omega) with rfl | rfl | rfl | rfl | rfl | rfl | rfl | rfl <;> rfl
    | _ => simp at h
theorem dw_list {W : World} {a b c : String × DataW Unit} {r : List (String × DataW Unit)} (h : laidMet Tryd.prog (a :: b :: c :: ("loop.example/selvedge/impl.dskWords", Rows.laid_loop_example_selvedge_impl_dskWords) :: r) W) : W.var? Tryd.prog "loop.example/selvedge/impl.dskWords" = some wordsA := by
  have h1 := h.tail.tail.tail
  obtain ⟨ps, ⟨g1, t1, cs1, fuel1, p1, q1, hg1, ht1, hv1, hd1, _, _⟩, _⟩ := h1
  obtain rfl := Option.some.inj (wordsNamed.symm.trans hg1)
  obtain rfl := Option.some.inj (wordsType.symm.trans ht1)
  rw [hv1]
  congr 1
  exact Array.toList_inj.1 (words_cells hd1)
end Go.Proofs.YtoglomfejgpoeaaDoor
