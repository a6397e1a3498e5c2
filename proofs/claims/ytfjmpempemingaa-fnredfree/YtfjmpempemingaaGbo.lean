/-
  Lists of operators as lists; whether two are the same (laws.heList).
  An order, an operator and others are drawn; RedAll of them as lists.
-/
import Derived.Test.YtfjmpempemingaaGbn
import Derived.Test.YtfjmpempemingaaGba
import Derived.Test.YtfjmpempemingaaGap
import Derived.Test.YtfjmpempemingaaGbm
import Derived.Test.YtfjmpempemingaaGaq
namespace Go.Proofs.Ytfjmpempemingaa
open Go.RowKit Go.Deep Go.Joins
set_option linter.unusedVariables false

theorem rds_lists {w : World} {a : Option Addr} {n c : Nat} {ad : Nat → Option Addr} {ln cp : Nat → Nat} {f : Nat → Nat → T} (h : RdS w a n c ad ln cp f) : ∃ L : Nat → List T, ln = lN L ∧ RdS w a n c ad (lN L) cp (fN L) := by
  have e : ln = lN (fun i => (List.range (ln i)).map (f i)) := funext fun i => by simp
  refine ⟨fun i => (List.range (ln i)).map (f i), e, ?_⟩
  rw [← e]
  refine ⟨h.1, h.2.1, h.2.2.1, fun i hi => rd_congr (h.2.2.2 i hi) (fun j hj => ?_)⟩
  show f i j = lf ((List.range (ln i)).map (f i)) j
  rw [lf_eq (by simpa using hj)]
  simp
def lsq (n : Nat) (L : Nat → List T) (n' : Nat) (L' : Nat → List T) : Bool := decide (n = n' ∧ ∀ i, i < n → sq (L i) (L' i) = true)
theorem lsq_same (n : Nat) (L : Nat → List T) : lsq n L n L = true := decide_eq_true ⟨rfl, fun i _ => sq_same (L i)⟩
theorem lsq_iff {n : Nat} {L : Nat → List T} {n' : Nat} {L' : Nat → List T} : lsq n L n' L' = true ↔ n = n' ∧ ∀ i, i < n → L i = L' i := by
  unfold lsq
  rw [decide_eq_true_iff]
  exact ⟨fun h => ⟨h.1, fun i hi => sq_iff.1 (h.2 i hi)⟩, fun h => ⟨h.1, fun i hi => sq_iff.2 (h.2 i hi)⟩⟩
theorem lsq_no {n : Nat} {L : Nat → List T} {n' : Nat} {L' : Nat → List T} (h : ¬ (n = n' ∧ ∀ i, i < n → L i = L' i)) : lsq n L n' L' = false := by
  cases e : lsq n L n' L'
  · rfl
  · exact absurd (lsq_iff.1 e) h
end Go.Proofs.Ytfjmpempemingaa
namespace Go.Proofs.Ytfjmpempemingaa
open Go.RowKit Go.Deep Go.Joins
set_option linter.unusedVariables false

def Red3 (w : World) (n : Nat) (R : Option Dv) (e : Ending) (w' : World) : Prop := ∃ qa qc ad cp la lc, e = .returned (.tuple #[.slice qa (resN n R) qc, .slice la (resL R).length lc, .bool R.isSome]) ∧ Below w.heap.size w w' ∧ RdS w' qa (resN n R) qc ad (lN (resQ R)) cp (fN (resQ R)) ∧ RL w' la lc (resL R)
theorem redS_L {w : World} {o : Int} {pa : Option Addr} {pc : Nat} {p : List T} {a : Option Addr} {n cap : Nat} {ad : Nat → Option Addr} {cp : Nat → Nat} {L : Nat → List T} (hp : RL w pa pc p) (h : RdS w a n cap ad (lN L) cp (fN L)) {R : Option Dv} (hR : redAll o p n (lN L) (fN L) = R) : Calls Try.prog 23 #[.int .i64 o, .slice pa p.length pc, .slice a n cap] w (Red3 w n R) :=
  (redAllS w o pa pc p a n cap ad (lN L) cp (fN L) hp h hR).mono fun e w' ⟨qa, qc, ad, cp, la, lc, he, hb, h1, h2⟩ => ⟨qa, qc, ad, cp, la, lc, he, hb, h1, h2⟩
theorem redS_yes {w : World} {o : Int} {pa : Option Addr} {pc : Nat} {p : List T} {a : Option Addr} {n cap : Nat} {ad : Nat → Option Addr} {cp : Nat → Nat} {L : Nat → List T} (hp : RL w pa pc p) (h : RdS w a n cap ad (lN L) cp (fN L)) {S : Dv} (hR : redAll o p n (lN L) (fN L) = some S) : Calls Try.prog 23 #[.int .i64 o, .slice pa p.length pc, .slice a n cap] w fun e w' => ∃ qa qc ad cp la lc, e = .returned (.tuple #[.slice qa n qc, .slice la S.r.length lc, .bool true]) ∧ Below w.heap.size w w' ∧ RdS w' qa n qc ad (lN S.q) cp (fN S.q) ∧ RL w' la lc S.r := redS_L hp h hR
theorem redS_no {w : World} {o : Int} {pa : Option Addr} {pc : Nat} {p : List T} {a : Option Addr} {n cap : Nat} {ad : Nat → Option Addr} {cp : Nat → Nat} {L : Nat → List T} (hp : RL w pa pc p) (h : RdS w a n cap ad (lN L) cp (fN L)) (hR : redAll o p n (lN L) (fN L) = none) : Calls Try.prog 23 #[.int .i64 o, .slice pa p.length pc, .slice a n cap] w fun e w' => ∃ qa qc ad cp la lc, e = .returned (.tuple #[.slice qa 0 qc, .slice la 0 lc, .bool false]) ∧ Below w.heap.size w w' ∧ RdS w' qa 0 qc ad (lN (fun _ => [])) cp (fN (fun _ => [])) ∧ RL w' la lc [] := redS_L hp h hR
theorem sumI_L {w : World} {a1 : Option Addr} {n1 c1 : Nat} {ad1 : Nat → Option Addr} {ln1 cp1 : Nat → Nat} {f1 : Nat → Nat → T} (h1 : RdS w a1 n1 c1 ad1 ln1 cp1 f1) {a2 : Option Addr} {n2 c2 : Nat} {ad2 : Nat → Option Addr} {ln2 cp2 : Nat → Nat} {f2 : Nat → Nat → T} (h2 : RdS w a2 n2 c2 ad2 ln2 cp2 f2) : Calls Try.prog 14 #[.slice a1 n1 c1, .slice a2 n2 c2] w (Two2 w (redSum n1 ln1 f1 n2 ln2 f2)) :=
  (redSumI w a1 n1 c1 ad1 ln1 cp1 f1 h1 a2 n2 c2 ad2 ln2 cp2 f2 h2).mono fun _ _ h => two_out h
theorem freeI_S (o : Int) {w : World} {pa : Option Addr} {pc : Nat} {p : List T} (hp : RL w pa pc p) {a : Option Addr} {n cap : Nat} {ad : Nat → Option Addr} {ln cp : Nat → Nat} {f : Nat → Nat → T} (h : RdS w a n cap ad ln cp f) : Calls Try.prog 6 #[.int .i64 o, .slice pa p.length pc, .slice a n cap] w (Val w (.bool (redFree o p.length (lf p) n ln f))) := redFreeI w o pa p.length pc (lf p) hp a n cap ad ln cp f h
def RedD (w : World) (e : Ending) (w' : World) : Prop := ∃ (o : Int) (pa : Option Addr) (pc : Nat) (p : List T) (a : Option Addr) (n c : Nat) (ad : Nat → Option Addr) (cp : Nat → Nat) (L : Nat → List T), e = .returned (.tuple #[.int .i64 o, .slice pa p.length pc, .slice a n c]) ∧ RL w' pa pc p ∧ RdS w' a n c ad (lN L) cp (fN L) ∧ p.length ≤ 5 ∧ n ≤ 5 ∧ Below w.heap.size w w'
theorem RedD.mk {w w' : World} {o : Int} {pa : Option Addr} {n pc : Nat} {f : Nat → T} {a : Option Addr} {m c : Nat} {ad : Nat → Option Addr} {ln cp : Nat → Nat} {g : Nat → Nat → T} (h1 : Rd w' pa n pc f) (h2 : RdS w' a m c ad ln cp g) (h3 : n ≤ 5) (h4 : m ≤ 5) (hb : Below w.heap.size w w') : RedD w (.returned (.tuple #[.int .i64 o, .slice pa n pc, .slice a m c])) w' := by
  obtain ⟨p, rfl, hp⟩ := list_of h1
  obtain ⟨L, rfl, hL⟩ := rds_lists h2
  exact ⟨o, pa, pc, p, a, m, c, ad, cp, L, rfl, hp, hL, h3, h4, hb⟩
end Go.Proofs.Ytfjmpempemingaa
