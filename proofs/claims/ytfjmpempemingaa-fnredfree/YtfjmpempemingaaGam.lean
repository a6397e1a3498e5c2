/-
  How the rows' readings of lists of operators are opened.
  A copy of lists, its blocks rise; and it is marked.
  A term put into a sum, in the model.
-/
import Derived.Test.YtfjmpempemingaaGag
import Derived.ProofKit
import Derived.Deep.Slices
import Derived.Lib.SmallJoins
import Derived.Test.YtfjmpempemingaaGae
import Derived.Test.YtfjmpempemingaaGad
namespace Go.Proofs.Ytfjmpempemingaa
open Go.RowKit Go.Deep Go.Joins
set_option linter.unusedVariables false

/-- A slice of slices of terms that came in. -/
def IsLists (w : World) (a : Option Addr) (n cap : Nat) (ad : Nat → Option Addr) (ln cp : Nat → Nat) (f : Nat → Nat → T) : Prop :=
  n ≤ cap ∧ cap ≤ maxLen ∧ (n = 0 ∨ ∃ b off, a = some ⟨b, off, none⟩ ∧ b < w.heap.size ∧ ∀ i, i < n → w.cell? ⟨b, off + i, none⟩ = some (.slice (ad i) (ln i) (cp i))) ∧ ∀ i, i < n → IsTerms w (ad i) (ln i) (cp i) (f i)
theorem IsLists.rd {w : World} {a : Option Addr} {n cap : Nat} {ad : Nat → Option Addr} {ln cp : Nat → Nat} {f : Nat → Nat → T} (h : IsLists w a n cap ad ln cp f) (hn : n * 40 ≤ 140737488351232) (hl : ∀ i, i < n → ln i * 40 ≤ 140737488351232) : RdS w a n cap ad ln cp f :=
  ⟨h.1, hn, h.2.2.1, fun i hi => (h.2.2.2 i hi).rd (hl i hi)⟩
end Go.Proofs.Ytfjmpempemingaa
namespace Go.Proofs.Ytfjmpempemingaa
open Go.RowKit Go.Deep Go.Joins
set_option linter.unusedVariables false
/-- no block was changed but those between lo and hi. -/
structure Apart (lo hi : Nat) (w w' : World) : Prop where
  os : w'.os = w.os
  tape : w'.tape = w.tape
  output : w'.output = w.output
  size : w'.heap.size = w.heap.size
  block : ∀ k, k < w.heap.size → k < lo ∨ hi ≤ k → w'.heap[k]? = w.heap[k]?
theorem Apart.refl (lo hi : Nat) (w : World) : Apart lo hi w w := ⟨rfl, rfl, rfl, rfl, fun _ _ _ => rfl⟩
theorem Apart.grown {lo hi : Nat} {w w' w'' : World} {g : Nat} (h : Apart lo hi w w') (hg : w'.grownBy w'' (some g)) (hs : w''.heap.size = w'.heap.size) (h1 : lo ≤ g) (h2 : g < hi) : Apart lo hi w w'' :=
  ⟨hg.os.trans h.os, hg.tape.trans h.tape, hg.output.trans h.output, hs.trans h.size, fun k hk hc => (hg.block k (by rw [h.size]; exact hk) (fun e => by cases e; omega)).trans (h.block k hk hc)⟩
end Go.Proofs.Ytfjmpempemingaa
namespace Go.Proofs.Ytfjmpempemingaa
open Go.RowKit
set_option linter.unusedVariables false

def putT (c : Int) (m : M) (L : List T) : List T := if c = 0 then L else addT (lf L) L.length (fun _ => ⟨c, m⟩) 1 0 0
/-- all numbers are of the field. -/
def Cok (L : List T) : Prop := ∀ t ∈ L, 0 ≤ t.c ∧ t.c ≤ 100
theorem cok_nil : Cok [] := fun t ht => by simp at ht
theorem lf_mem {L : List T} {i : Nat} (h : i < L.length) : lf L i ∈ L := by
  unfold lf
  rw [List.getD_eq_getElem?_getD, List.getElem?_eq_getElem h]
  exact List.getElem_mem h
theorem Cok.at {L : List T} (h : Cok L) : ∀ i, i < L.length → 0 ≤ (lf L i).c ∧ (lf L i).c ≤ 100 := fun i hi => h _ (lf_mem hi)
theorem addI_c {f : Nat → T} {la : Nat} {g : Nat → T} {lb : Nat} (hf : ∀ i, i < la → 0 ≤ (f i).c ∧ (f i).c ≤ 100) (hg : ∀ i, i < lb → 0 ≤ (g i).c ∧ (g i).c ≤ 100) : ∀ (u i k : Nat), Cok (mrgI f la g lb u i k)
  | 0, _, _ => by intro t ht; simp [mrgI] at ht
  | u + 1, i, k => by
    have a1 := addI_c hf hg u (i + 1) k
    have a2 := addI_c hf hg u i (k + 1)
    have a3 := addI_c hf hg u (i + 1) (k + 1)
    intro t ht
    simp only [mrgI] at ht
    split at ht
    · rename_i hh
      split at ht
      · rcases List.mem_cons.1 ht with rfl | ht
        · exact hf i hh.1
        · exact a1 t ht
      · split at ht
        · rcases List.mem_cons.1 ht with rfl | ht
          · exact hg k hh.2
          · exact a2 t ht
        · split at ht
          · rcases List.mem_cons.1 ht with rfl | ht
            · dsimp only; omega
            · exact a3 t ht
          · exact a3 t ht
    · split at ht
      · rename_i hh
        rcases List.mem_cons.1 ht with rfl | ht
        · exact hf i hh
        · exact a1 t ht
      · split at ht
        · rename_i hh
          rcases List.mem_cons.1 ht with rfl | ht
          · exact hg k hh
          · exact a2 t ht
        · cases ht
theorem putT_c {c : Int} {m : M} {L : List T} (hL : Cok L) (h0 : 0 ≤ c) (h1 : c ≤ 100) : Cok (putT c m L) := by
  unfold putT
  split
  · exact hL
  · exact addI_c hL.at (fun _ _ => ⟨h0, h1⟩) _ _ _
theorem putT_len (c : Int) (m : M) (L : List T) : (putT c m L).length ≤ L.length + 1 := by
  unfold putT
  split
  · omega
  · have := addT_len (lf L) L.length (fun _ => ⟨c, m⟩) 1 0 0
    omega
theorem rd_one (w : World) (t : T) : Rd (w.alloc (.cells #[.int .i64 t.c, .int .i64 t.m.x, .int .i64 t.m.y, .int .i64 t.m.d, .int .i64 t.m.e] 34)) (some ⟨w.heap.size, 0, none⟩) 1 1 (fun _ => t) := by
  refine ⟨Nat.le_refl _, by omega, .inr ⟨w.heap.size, 0, rfl, by simp, fun i hi => ?_⟩⟩
  obtain rfl : i = 0 := by omega
  exact ⟨by rw [World.cell?_alloc_at _ _ _ _ rfl]; rfl, by rw [World.cell?_alloc_at _ _ _ _ rfl]; rfl, by rw [World.cell?_alloc_at _ _ _ _ rfl]; rfl, by rw [World.cell?_alloc_at _ _ _ _ rfl]; rfl, by rw [World.cell?_alloc_at _ _ _ _ rfl]; rfl⟩
set_option maxRecDepth 100000 in
set_option maxHeartbeats 2000000 in
theorem l4PutS (w : World) (lo : Nat) (v : Value) (L : List T) (c x y d e : Int) (ho : w.ownsRow lo 34 5 v L.length (cellsL L)) (hlo : lo ≤ w.heap.size) (hl : L.length ≤ 1000) (hL : Cok L) (h0 : 0 ≤ c) (h1 : c ≤ 100) :
    Calls Try.prog 46 #[v, .int .i64 c, .agg #[.int .i64 x, .int .i64 y, .int .i64 d, .int .i64 e]] w fun r w' => ∃ v', r = .returned v' ∧ Below w.heap.size w w' ∧ w'.ownsRow lo 34 5 v' (putT c ⟨x, y, d, e⟩ L).length (cellsL (putT c ⟨x, y, d, e⟩ L)) := by
  by_cases hc : c = 0
  · subst hc
    have e1 : putT 0 ⟨x, y, d, e⟩ L = L := by simp [putT]
    rw [e1]
    have HO := Hid.mk' (owns_below ho (bel_one w (.cells #[.int .i64 x, .int .i64 y, .int .i64 d, .int .i64 e] 32)))
    clear ho e1
    go_enter Try.func46, Try.ntmps46
    go_wp2
    go_ret
    exact ⟨_, rfl, bel_one w _, HO.out⟩
  · have hcb : (c == 0) = false := by simp [hc]
    have e1 : putT c ⟨x, y, d, e⟩ L = addT (lf L) L.length (fun _ => ⟨c, ⟨x, y, d, e⟩⟩) 1 0 0 := by simp [putT, hc]
    rw [e1]
    obtain ⟨a, cap, rfl, hout⟩ := out_of_owns ho (by omega)
    have HR := Hid.mk' hout.1
    clear ho hout hc e1
    go_enter Try.func46, Try.ntmps46
    go_wp2_with fail
    have ha := Hid.mk' ((HR.out.below (bel_one w (.cells #[.int .i64 x, .int .i64 y, .int .i64 d, .int .i64 e] 32))).below (bel_one _ (.cells #[.int .i64 c, .int .i64 x, .int .i64 y, .int .i64 d, .int .i64 e] 34)))
    have hb := rd_one (w.alloc (.cells #[.int .i64 x, .int .i64 y, .int .i64 d, .int .i64 e] 32)) ⟨c, ⟨x, y, d, e⟩⟩
    have hb2 : Rd ((w.alloc (.cells #[.int .i64 x, .int .i64 y, .int .i64 d, .int .i64 e] 32)).alloc (.cells #[.int .i64 c, .int .i64 x, .int .i64 y, .int .i64 d, .int .i64 e] 34)) (some ⟨w.heap.size + 1, 0, none⟩) 1 1 (fun _ => ⟨c, ⟨x, y, d, e⟩⟩) := by simpa using hb
    have hz := Hid.mk' (bel_next (bel_one w (.cells #[.int .i64 x, .int .i64 y, .int .i64 d, .int .i64 e] 32)) (bel_one _ (.cells #[.int .i64 c, .int .i64 x, .int .i64 y, .int .i64 d, .int .i64 e] 34)))
    clear hb
    generalize ((w.alloc (.cells #[.int .i64 x, .int .i64 y, .int .i64 d, .int .i64 e] 32)).alloc (.cells #[.int .i64 c, .int .i64 x, .int .i64 y, .int .i64 d, .int .i64 e] 34)) = W at ha hb2 hz ⊢
    refine (l3AddS _ _ _ _ _ _ _ (lf L) (fun _ => ⟨c, ⟨x, y, d, e⟩⟩) ha.out hb2 (by omega) hL.at (fun _ _ => ⟨h0, h1⟩)).mono ?_
    rintro r w1 ⟨v', rfl, hb1, hown⟩
    have HB := Hid.mk' (bel_next hz.out hb1)
    have HO := Hid.mk' (owns_lower hown (Nat.le_trans hlo hz.out.size))
    clear hb2 hb1 hown ha hz HR
    go_wp2
    go_ret
    exact ⟨_, rfl, HB.out, HO.out⟩
end Go.Proofs.Ytfjmpempemingaa
