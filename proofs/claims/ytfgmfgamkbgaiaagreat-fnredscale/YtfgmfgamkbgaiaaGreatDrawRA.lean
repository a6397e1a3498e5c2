/-
  An order, an operator and others are drawn; RedAll of them as lists.
-/
import Derived.Test.YtfgmfgamkbgaiaaGreatGbf
import Derived.Test.YtfgmfgamkbgaiaaGreatGbg
import Derived.Test.YtfgmfgamkbgaiaaGreatHeLst
import Derived.Test.YtfgmfgamkbgaiaaGreatGbm
import Derived.Test.YtfgmfgamkbgaiaaGreatGbh
import Derived.Test.YtfgmfgamkbgaiaaGreatFreeI
namespace Go.Proofs.YtfgmfgamkbgaiaaGreat
open Go.RowKit Go.Deep Go.Joins
set_option linter.unusedVariables false

def Red3 (w : World) (n : Nat) (R : Option Dv) (e : Ending) (w' : World) : Prop := ∃ qa qc ad cp la lc, e = .returned (.tuple #[.slice qa (resN n R) qc, .slice la (resL R).length lc, .bool R.isSome]) ∧ Below w.heap.size w w' ∧ RdS w' qa (resN n R) qc ad (lN (resQ R)) cp (fN (resQ R)) ∧ RL w' la lc (resL R)
theorem redI_L {w : World} {o : Int} {pa : Option Addr} {pc : Nat} {p : List T} {a : Option Addr} {n cap : Nat} {ad : Nat → Option Addr} {cp : Nat → Nat} {L : Nat → List T} (hp : RL w pa pc p) (h : RdS w a n cap ad (lN L) cp (fN L)) {R : Option Dv} (hR : redAll o p n (lN L) (fN L) = R) : Calls Tryz.prog 8 #[.int .i64 o, .slice pa p.length pc, .slice a n cap] w (Red3 w n R) :=
  (redAllI' w o pa pc p a n cap ad (lN L) cp (fN L) hp h hR).mono fun e w' ⟨qa, qc, ad, cp, Rb, B, la, lc, mid, he, hb, h1, h2, _⟩ => ⟨qa, qc, ad, cp, la, lc, he, hb, h1.rd, h2.1⟩
theorem redS_L {w : World} {o : Int} {pa : Option Addr} {pc : Nat} {p : List T} {a : Option Addr} {n cap : Nat} {ad : Nat → Option Addr} {cp : Nat → Nat} {L : Nat → List T} (hp : RL w pa pc p) (h : RdS w a n cap ad (lN L) cp (fN L)) {R : Option Dv} (hR : redAll o p n (lN L) (fN L) = R) : Calls Tryz.prog 9 #[.int .i64 o, .slice pa p.length pc, .slice a n cap] w (Red3 w n R) :=
  (redAllS w o pa pc p a n cap ad (lN L) cp (fN L) hp h hR).mono fun e w' ⟨qa, qc, ad, cp, la, lc, he, hb, h1, h2⟩ => ⟨qa, qc, ad, cp, la, lc, he, hb, h1, h2⟩
theorem redI_yes {w : World} {o : Int} {pa : Option Addr} {pc : Nat} {p : List T} {a : Option Addr} {n cap : Nat} {ad : Nat → Option Addr} {cp : Nat → Nat} {L : Nat → List T} (hp : RL w pa pc p) (h : RdS w a n cap ad (lN L) cp (fN L)) {S : Dv} (hR : redAll o p n (lN L) (fN L) = some S) : Calls Tryz.prog 8 #[.int .i64 o, .slice pa p.length pc, .slice a n cap] w fun e w' => ∃ qa qc ad cp la lc, e = .returned (.tuple #[.slice qa n qc, .slice la S.r.length lc, .bool true]) ∧ Below w.heap.size w w' ∧ RdS w' qa n qc ad (lN S.q) cp (fN S.q) ∧ RL w' la lc S.r := redI_L hp h hR
theorem redI_no {w : World} {o : Int} {pa : Option Addr} {pc : Nat} {p : List T} {a : Option Addr} {n cap : Nat} {ad : Nat → Option Addr} {cp : Nat → Nat} {L : Nat → List T} (hp : RL w pa pc p) (h : RdS w a n cap ad (lN L) cp (fN L)) (hR : redAll o p n (lN L) (fN L) = none) : Calls Tryz.prog 8 #[.int .i64 o, .slice pa p.length pc, .slice a n cap] w fun e w' => ∃ qa qc ad cp la lc, e = .returned (.tuple #[.slice qa 0 qc, .slice la 0 lc, .bool false]) ∧ Below w.heap.size w w' ∧ RdS w' qa 0 qc ad (lN (fun _ => [])) cp (fN (fun _ => [])) ∧ RL w' la lc [] := redI_L hp h hR
theorem redS_yes {w : World} {o : Int} {pa : Option Addr} {pc : Nat} {p : List T} {a : Option Addr} {n cap : Nat} {ad : Nat → Option Addr} {cp : Nat → Nat} {L : Nat → List T} (hp : RL w pa pc p) (h : RdS w a n cap ad (lN L) cp (fN L)) {S : Dv} (hR : redAll o p n (lN L) (fN L) = some S) : Calls Tryz.prog 9 #[.int .i64 o, .slice pa p.length pc, .slice a n cap] w fun e w' => ∃ qa qc ad cp la lc, e = .returned (.tuple #[.slice qa n qc, .slice la S.r.length lc, .bool true]) ∧ Below w.heap.size w w' ∧ RdS w' qa n qc ad (lN S.q) cp (fN S.q) ∧ RL w' la lc S.r := redS_L hp h hR
theorem redS_no {w : World} {o : Int} {pa : Option Addr} {pc : Nat} {p : List T} {a : Option Addr} {n cap : Nat} {ad : Nat → Option Addr} {cp : Nat → Nat} {L : Nat → List T} (hp : RL w pa pc p) (h : RdS w a n cap ad (lN L) cp (fN L)) (hR : redAll o p n (lN L) (fN L) = none) : Calls Tryz.prog 9 #[.int .i64 o, .slice pa p.length pc, .slice a n cap] w fun e w' => ∃ qa qc ad cp la lc, e = .returned (.tuple #[.slice qa 0 qc, .slice la 0 lc, .bool false]) ∧ Below w.heap.size w w' ∧ RdS w' qa 0 qc ad (lN (fun _ => [])) cp (fN (fun _ => [])) ∧ RL w' la lc [] := redS_L hp h hR
theorem sumI_L {w : World} {a1 : Option Addr} {n1 c1 : Nat} {ad1 : Nat → Option Addr} {ln1 cp1 : Nat → Nat} {f1 : Nat → Nat → T} (h1 : RdS w a1 n1 c1 ad1 ln1 cp1 f1) {a2 : Option Addr} {n2 c2 : Nat} {ad2 : Nat → Option Addr} {ln2 cp2 : Nat → Nat} {f2 : Nat → Nat → T} (h2 : RdS w a2 n2 c2 ad2 ln2 cp2 f2) : Calls Tryz.prog 13 #[.slice a1 n1 c1, .slice a2 n2 c2] w (Two2 w (redSum n1 ln1 f1 n2 ln2 f2)) :=
  (redSumI w a1 n1 c1 ad1 ln1 cp1 f1 h1 a2 n2 c2 ad2 ln2 cp2 f2 h2).mono fun _ _ h => two_out h
theorem freeI_S (o : Int) {w : World} {pa : Option Addr} {pc : Nat} {p : List T} (hp : RL w pa pc p) {a : Option Addr} {n cap : Nat} {ad : Nat → Option Addr} {ln cp : Nat → Nat} {f : Nat → Nat → T} (h : RdS w a n cap ad ln cp f) : Calls Tryz.prog 15 #[.int .i64 o, .slice pa p.length pc, .slice a n cap] w (Val w (.bool (redFree o p.length (lf p) n ln f))) := redFreeI w o pa p.length pc (lf p) hp a n cap ad ln cp f h
def RedD (w : World) (e : Ending) (w' : World) : Prop := ∃ (o : Int) (pa : Option Addr) (pc : Nat) (p : List T) (a : Option Addr) (n c : Nat) (ad : Nat → Option Addr) (cp : Nat → Nat) (L : Nat → List T), e = .returned (.tuple #[.int .i64 o, .slice pa p.length pc, .slice a n c]) ∧ RL w' pa pc p ∧ RdS w' a n c ad (lN L) cp (fN L) ∧ p.length ≤ 5 ∧ n ≤ 5 ∧ Below w.heap.size w w'
theorem RedD.mk {w w' : World} {o : Int} {pa : Option Addr} {n pc : Nat} {f : Nat → T} {a : Option Addr} {m c : Nat} {ad : Nat → Option Addr} {ln cp : Nat → Nat} {g : Nat → Nat → T} (h1 : Rd w' pa n pc f) (h2 : RdS w' a m c ad ln cp g) (h3 : n ≤ 5) (h4 : m ≤ 5) (hb : Below w.heap.size w w') : RedD w (.returned (.tuple #[.int .i64 o, .slice pa n pc, .slice a m c])) w' := by
  obtain ⟨p, rfl, hp⟩ := list_of h1
  obtain ⟨L, rfl, hL⟩ := rds_lists h2
  exact ⟨o, pa, pc, p, a, m, c, ad, cp, L, rfl, hp, hL, h3, h4, hb⟩
set_option maxRecDepth 100000 in
set_option maxHeartbeats 4000000 in
theorem drawRedAll (w : World) (a : Option Addr) (len cap : Nat) (h : Src w a len cap) :
    Calls Tryz.prog 7 #[.slice a len cap] w (RedD w) := by
  go_enter Tryz.func7, Tryz.ntmps7
  go_wp2_with fail
  refine (open_any _ _ _ _ h).mono ?_
  rintro e w1 ⟨rfl, hR1, b1⟩
  have hl1 := hR1.lt
  clear h
  go_wp2_with fail
  refine (order_any w1 _ _ hR1 (by omega)).mono ?_
  rintro e w2 ⟨o, rfl, hR2, s2⟩
  have b2 := s2.below b1 (Nat.le_refl _) (by omega)
  have hs2 := s2.size
  clear hR1 s2 b1
  go_wp2_with fail
  refine (any_any w2 _ _ 24 hR2 (by omega) (by omega) (by omega)).mono ?_
  rintro e w3 ⟨pa, n, pc, f, q, rfl, hrd, hm, hblk, hq, hR3, s3⟩
  have b3 := s3.below b2 (Nat.le_refl _) (by omega)
  have hne := off_of1 hblk (show w.heap.size < w2.heap.size by omega)
  have hs3 := s3.size
  clear hR2 s3 b2 hblk
  go_wp2_with fail
  refine (list_any w3 _ _ 3 24 hR3 (by omega) (by omega) (by omega) (by omega) (by omega)).mono ?_
  rintro e w4 ⟨v, LS, q', rfl, ho, hlen, hE, hq', hR4, s4⟩
  obtain ⟨aa, ca, ada, lna, cpa, fa, rfl, hra⟩ := rds_owns ho hE (by omega)
  have b4 := s4.below b3 (Nat.le_refl _) (by omega)
  have hrd4 := hrd.beside s4 hne
  have HB4 := Hid.mk' b4
  have HRA := Hid.mk' hra
  have HRD := Hid.mk' hrd4
  clear hR3 hR4 s4 b3 hrd ho hE b4 hra hrd4
  go_wp2
  refine bodyPost_ret (v := .tuple #[.int .i64 o, .slice pa n pc, .slice aa LS.length ca]) (by simp [results, Tryz.results7, go_sem, *]) rfl ?_
  exact RedD.mk HRD.out HRA.out hm hlen HB4.out
end Go.Proofs.YtfgmfgamkbgaiaaGreat
