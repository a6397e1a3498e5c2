/-
  An order, an operator and others are drawn, and now and then the operator is what is left (spec.DrawRedFree).
-/
import Derived.Test.YtfjmpempemingaaGbo
namespace Go.Proofs.Ytfjmpempemingaa
open Go.RowKit Go.Deep Go.Joins
set_option linter.unusedVariables false

theorem owns_at {w : World} {lo : Nat} {e : TypeId} {size : Nat} {v : Value} {n : Nat} {xs : List Value} (h : w.ownsRow lo e size v n xs) {k : Nat} (hk : v.ownBlock = some k) : lo ≤ k := by
  rcases h.2 with ⟨hv, h0⟩ | ⟨g, cap, cur, hv, hlo, _⟩
  · rw [hv] at hk; cases hk
  · rw [hv] at hk; cases hk; exact hlo
/-- the list behind a step that turns the reader alone. -/
theorem list_past {w w' : World} {B lo lo' : Nat} {g' : Option Nat} {a : Option Addr} {c : Nat} {LS : List Value} (h : w.ownsRow lo 23 1 (.slice a LS.length c) LS.length LS) (hE : ∀ e ∈ LS, El w lo' g' e) (hl : LS.length ≤ 100) (hb : Beside B w w') (h1 : B < lo) (h2 : B < lo') : ∃ ad ln cp f, RdS w' a LS.length c ad ln cp f := by
  have h' : w'.ownsRow lo 23 1 (.slice a LS.length c) LS.length LS := owns_grown h (beside_grown hb) (fun kk hk e => by have := owns_at h hk; cases e; omega)
  obtain ⟨a', c', ad, ln, cp, f, e, hr⟩ := rds_owns h' (fun e he => (hE e he).beside hb h2) hl
  cases e
  exact ⟨ad, ln, cp, f, hr⟩
set_option maxRecDepth 100000 in
set_option maxHeartbeats 4000000 in
/-- RedAll where it goes: what is left lies nowhere that was there. -/
theorem redS_far {w : World} {o : Int} {pa : Option Addr} {pc : Nat} {p : List T} {a : Option Addr} {n cap : Nat} {ad : Nat → Option Addr} {cp : Nat → Nat} {L : Nat → List T} (hp : RL w pa pc p) (h : RdS w a n cap ad (lN L) cp (fN L)) {S : Dv} (hR : redAll o p n (lN L) (fN L) = some S) :
    Calls Try.prog 23 #[.int .i64 o, .slice pa p.length pc, .slice a n cap] w fun e w' => ∃ qa qc la lc, e = .returned (.tuple #[.slice qa n qc, .slice la S.r.length lc, .bool true]) ∧ Below w.heap.size w w' ∧ RL w' la lc S.r ∧ ∀ x, x < w.heap.size → Off la S.r.length x := by
  obtain ⟨⟨o1, o2⟩, h1, h2, h3⟩ := redAll_some hR
  have q1 : (n : Int) ≤ 140737488351232 := by have := h.2.1; omega
  have q2 : (p.length : Int) ≤ 140737488351232 := by have := hp.2.1; omega
  have HP := Hid.mk' hp
  have HH := Hid.mk' h
  clear hp h
  have HAL := fun (W : World) (k1 : RL W pa pc p) (k2 : RdS W a n cap ad (lN L) cp (fN L)) => l7AllSf W o pa pc p a n cap ad (lN L) cp (fN L) k1 k2 o1 o2 h1 h2
  rw [h3] at HAL
  have HALL := Hid.mk' HAL
  clear HAL h3 hR
  go_enter Try.func23, Try.ntmps23
  go_wp2_with (go_at_call 30; refine (inS_in _ _ _ _ (by omega) (by omega)).mono ?_; rintro r w' ⟨rfl, hw'⟩; obtain rfl := hw'.symm; clear hw')
  refine (polOkS _ _ _ _ (lf p) HP.out).mono ?_
  rw [show polOk p.length (lf p) = true from h1]
  rintro r w1 ⟨rfl, hb1⟩
  have HB1 := Hid.mk' hb1
  clear hb1
  go_wp2_with fail
  refine (lstOkS _ _ _ _ _ _ _ _ (HH.out.below HB1.out)).mono ?_
  rw [h2]
  rintro r w2 ⟨rfl, hb2⟩
  have HB2 := Hid.mk' (bel_next HB1.out hb2)
  clear hb2
  go_wp2_with fail
  refine (HALL.out w2 (Rd.below HP.out HB2.out) (HH.out.below HB2.out)).mono ?_
  rintro r w3 ⟨hb3, hh⟩
  have HB3 := Hid.mk' (bel_next HB2.out hb3)
  rcases hh with ⟨S', qa, qc, ad', cp', ra, rc, e1, rfl, r1, r2, r3⟩ | ⟨e1, _⟩
  · cases e1
    have HR2 := Hid.mk' r2
    have HR3 := Hid.mk' r3
    clear r1 r2 r3 hb3
    go_wp2
    refine bodyPost_ret (results_tmp3 rfl _ _ _) rfl ?_
    exact ⟨qa, qc, ra, rc, rfl, HB3.out, HR2.out, fun x hx => HR3.out x (Nat.lt_of_lt_of_le hx HB2.out.size)⟩
  · cases e1
def RedF (w : World) (e : Ending) (w' : World) : Prop := ∃ (o : Int) (pa : Option Addr) (pc : Nat) (p : List T) (a : Option Addr) (n c : Nat) (ad : Nat → Option Addr) (cp : Nat → Nat) (L : Nat → List T), e = .returned (.tuple #[.int .i64 o, .slice pa p.length pc, .slice a n c]) ∧ RL w' pa pc p ∧ RdS w' a n c ad (lN L) cp (fN L) ∧ n ≤ 5 ∧ Below w.heap.size w w'
theorem RedF.mk {w w' : World} {o : Int} {pa : Option Addr} {pc : Nat} {p : List T} {a : Option Addr} {m c : Nat} {ad : Nat → Option Addr} {ln cp : Nat → Nat} {g : Nat → Nat → T} (h1 : RL w' pa pc p) (h2 : RdS w' a m c ad ln cp g) (h4 : m ≤ 5) (hb : Below w.heap.size w w') : RedF w (.returned (.tuple #[.int .i64 o, .slice pa p.length pc, .slice a m c])) w' := by
  obtain ⟨L, rfl, hL⟩ := rds_lists h2
  exact ⟨o, pa, pc, p, a, m, c, ad, cp, L, rfl, h1, hL, h4, hb⟩
set_option maxRecDepth 100000 in
set_option maxHeartbeats 4000000 in
theorem drawRedFree (w : World) (a : Option Addr) (len cap : Nat) (h : Src w a len cap) :
    Calls Try.prog 5 #[.slice a len cap] w (RedF w) := by
  go_enter Try.func5, Try.ntmps5
  go_wp2_with fail
  refine (open_any _ _ _ _ h).mono ?_
  rintro e w1 ⟨rfl, hR1, b1⟩
  have hl1 := hR1.lt
  clear h
  go_wp2_with fail
  refine (order_any w1 _ _ hR1 (by omega)).mono ?_
  rintro e w2 ⟨o, rfl, hR2, s2⟩
  have b2 := s2.below b1 (Nat.le_refl _) (by omega)
  have hs2 := s2.size
  clear hR1 s2 b1
  go_wp2_with fail
  refine (any_any w2 _ _ 24 hR2 (by omega) (by omega) (by omega)).mono ?_
  rintro e w3 ⟨pa, n, pc, f, q, rfl, hrd, hm, hblk, hq, hR3, s3⟩
  obtain ⟨p, rfl, hrdL⟩ := list_of hrd
  have b3 := s3.below b2 (Nat.le_refl _) (by omega)
  have hne := off_of1 hblk (show w.heap.size < w2.heap.size by omega)
  have hs3 := s3.size
  clear hR2 s3 b2 hblk
  go_wp2_with fail
  refine (list_any w3 _ _ 2 24 hR3 (by omega) (by omega) (by omega) (by omega) (by omega)).mono ?_
  rintro e w4 ⟨v, LS, q', rfl, ho, hlen, hE, hq', hR4, s4⟩
  obtain ⟨aa, ca, ada, lna, cpa, fa, rfl, hra⟩ := rds_owns ho hE (by omega)
  obtain ⟨L, rfl, hraL⟩ := rds_lists hra
  have b4 := s4.below b3 (Nat.le_refl _) (by omega)
  have hs4 := s4.size
  have hrd4 := Rd.beside hrdL s4 hne
  have HB4 := Hid.mk' b4
  have HRA := Hid.mk' hraL
  have HRD : Hid (RL w4 pa pc p) := hrd4
  have HO := Hid.mk' ho
  have HE := Hid.mk' hE
  have HR4 := Hid.mk' hR4
  have HNE := Hid.mk' hne
  clear hR3 hR4 s4 b3 hrd hrdL ho hE b4 hra hraL hrd4 hne
  obtain ⟨R, hR⟩ : ∃ R, redAll o p LS.length (lN L) (fN L) = R := ⟨_, rfl⟩
  rcases R with _ | S
  · have HR := Hid.mk' hR
    clear hR
    go_wp2_with fail
    refine (redS_no HRD.out HRA.out HR.out).mono ?_
    rintro e w5 ⟨qa, qc, ad5, cp5, la, lc, rfl, hb5, _, _⟩
    have HB5 := Hid.mk' (bel_next HB4.out hb5)
    have HRD5 := Hid.mk' (RL.below HRD.out hb5)
    have HRA5 := Hid.mk' (RdS.below HRA.out hb5)
    clear hb5 HRD HRA HO HE HR4 HNE
    go_wp2
    refine bodyPost_ret (v := .tuple #[.int .i64 o, .slice pa p.length pc, .slice aa LS.length ca]) (by simp [results, Try.results5, go_sem, *]) rfl ?_
    exact RedF.mk HRD5.out HRA5.out hlen HB5.out
  · have HR := Hid.mk' hR
    clear hR
    go_wp2_with fail
    refine (redS_far HRD.out HRA.out HR.out).mono ?_
    rintro e w5 ⟨qa, qc, la, lc, rfl, hb5, hl5, hf5⟩
    have HB5 := Hid.mk' (bel_next HB4.out hb5)
    have HRD5 := Hid.mk' (RL.below HRD.out hb5)
    have HO5 := Hid.mk' (owns_grown HO.out (below_grown hb5 none) (fun _ _ e => by cases e))
    have HE5 : Hid (∀ e ∈ LS, El w5 w3.heap.size (Value.ownBlock (.slice aa LS.length ca)) e) := fun e he => (HE.out e he).below hb5
    have HR5 := Hid.mk' (HR4.out.grown (below_grown hb5 none) (fun _ e => by cases e))
    have HL5 := Hid.mk' hl5
    have HF5 := Hid.mk' (hf5 w.heap.size (by omega))
    clear hb5 HRD HRA HO HE HR4 hl5 hf5
    go_wp2_with fail
    refine (pick_any w5 _ _ 2 HR5.out (by omega) (by omega) (by omega)).mono ?_
    rintro e w6 ⟨x, rfl, hx0, hx2, hp6⟩
    have s6 := hp6.beside
    have HB6 := Hid.mk' (s6.below HB5.out (Nat.le_refl _) (by have := HB5.out.size; omega))
    have HRD6 : Hid (RL w6 pa pc p) := Rd.beside HRD5.out s6 HNE.out
    have HL6 : Hid (RL w6 la lc S.r) := Rd.beside HL5.out s6 HF5.out
    obtain ⟨ad6, ln6, cp6, f6, hra6⟩ := list_past HO5.out HE5.out (by omega) s6 (by omega) (by omega)
    have HRA6 := Hid.mk' hra6
    clear s6 hp6 hra6 HO5 HE5 HR5 HL5 HF5 HRD5 HNE
    have hx : x = 0 ∨ x = 1 := by omega
    rcases hx with rfl | rfl
    · go_wp2
      refine bodyPost_ret (v := .tuple #[.int .i64 o, .slice la S.r.length lc, .slice aa LS.length ca]) (by simp [results, Try.results5, go_sem, *]) rfl ?_
      exact RedF.mk HL6.out HRA6.out hlen HB6.out
    · go_wp2
      refine bodyPost_ret (v := .tuple #[.int .i64 o, .slice pa p.length pc, .slice aa LS.length ca]) (by simp [results, Try.results5, go_sem, *]) rfl ?_
      exact RedF.mk HRD6.out HRA6.out hlen HB6.out
end Go.Proofs.Ytfjmpempemingaa
