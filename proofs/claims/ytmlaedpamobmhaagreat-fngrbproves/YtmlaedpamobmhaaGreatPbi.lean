/-
  A division on its way in the world: its struct, its maps; what stays true where other memory turns.
  A division's greatest term is left.
  A division's greatest term is taken by one.
-/
import Derived.Test.YtmlaedpamobmhaaGreatPbh
import Derived.Test.YtmlaedpamobmhaaGreatPbf
namespace Go.Proofs.YtmlaedpamobmhaaGreat
open Go.RowKit Go.Deep Go.Joins Go.Maps
set_option linter.unusedVariables false

theorem SumR.more {w : World} {b n n' : Nat} {c : M → Int} (h : SumR w b n c) (hn : n ≤ n') : SumR w b n' c := by
  obtain ⟨D, ho, h2⟩ := h
  exact ⟨D, ownsMap_more ho hn, h2⟩
theorem SumR.congr {w : World} {b n : Nat} {c c' : M → Int} (h : SumR w b n c) (he : ∀ m, m.ok = true → c m = c' m) (hb : ∀ m, 0 ≤ c' m ∧ c' m ≤ 100) : SumR w b n c' := by
  obtain ⟨D, ho, h1, h2, h3⟩ := h
  exact ⟨D, ho, hb, fun m hm => by rw [← he m hm]; exact h2 m hm, h3⟩
theorem SumR.below {w w' : World} {b n : Nat} {c : M → Int} (h : SumR w b n c) (hb : Below w.heap.size w w') : SumR w' b n c := h.grown (below_grown hb none) (by simp)
end Go.Proofs.YtmlaedpamobmhaaGreat
namespace Go.Proofs.YtmlaedpamobmhaaGreat
open Go.RowKit Go.Deep Go.Joins Go.Maps
set_option linter.unusedVariables false

/-- a monomial is struck. -/
theorem SumR.del {w : World} {b n : Nat} {c : M → Int} (h : SumR w b n c) {m : M} (hm : m.ok = true) (ty : TypeId) :
    ∃ w', (Builtin.delete_ #[123, 52] ty #[.map (some b), .agg #[.int .i64 m.x, .int .i64 m.y, .int .i64 m.d, .int .i64 m.e]]).run Tryz.prog w = .ok (.tuple #[]) w' ∧ SumR w' b n (fun x => if meq x m = true then 0 else c x) ∧ w.grownBy w' (some b) := by
  obtain ⟨D, hown, hc, hat, hks⟩ := h
  obtain ⟨w', hrun, ho, ht⟩ := hown.drop lawM Tryz.underlying123 (keyOfM hm) ty
  refine ⟨w', hrun, ⟨_, ho, fun x => ?_, fun x hx => ?_, fun kl hkl => ?_⟩, ht.grown⟩
  · dsimp only
    split
    · exact ⟨Int.le_refl _, by decide⟩
    · exact hc x
  · by_cases hxm : x = m
    · subst hxm
      rw [atKey_del_same, has_del_same]
      simp [meq_iff.2 rfl]
    · have hne : keyM x ≠ keyM m := fun e => hxm (keyM_inj hx hm e)
      have hb : ¬ meq x m = true := fun e => hxm (meq_iff.1 e)
      rw [atKey_del_other hne, has_del_other hne]
      simp only [hb]
      exact hat x hx
  · by_cases hkm : kl = keyM m
    · exact ⟨m, hm, hkm⟩
    · rw [has_del_other hkm] at hkl
      exact hks kl hkl
theorem SumR.len {w : World} {b n : Nat} {K : List T} (h : SumR w b n (coef K)) (hK : Falls K) (ty : TypeId) : (Builtin.len_ #[123] ty #[.map (some b)]).run Tryz.prog w = .ok (.int .i64 (K.length : Int)) w := by
  obtain ⟨D, hown, hc, hat, hks⟩ := h
  have h1 := hown.len Tryz.underlying123 ty
  rw [size_K hown hat hks hK (fun _ _ => rfl)] at h1
  exact h1
end Go.Proofs.YtmlaedpamobmhaaGreat
namespace Go.Proofs.YtmlaedpamobmhaaGreat
open Go.RowKit Go.Deep Go.Joins Go.Maps
set_option linter.unusedVariables false

end Go.Proofs.YtmlaedpamobmhaaGreat
