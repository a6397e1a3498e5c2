/-
  What the exact laws lean on besides: terms in memory behind marks elsewhere.
-/
import Derived.Test.YtmlaedpamobmhaaGreatMBaa
set_option maxHeartbeats 1000000
namespace Go.Proofs.YtmlaedpamobmhaaGreat
open Go.RowKit
set_option linter.unusedVariables false
theorem KA (f:Nat→T) (la:Nat) (g:Nat→T) (lb:Nat):(mO f la g lb).1.length≤400:=by
 unfold mO;split
 ·rename_i h;exact h.2.2
 ·simp
open Go.RowKit Go.Maps Go.Sort Go.Shelf
theorem UQ {f g:Nat→T} {la lb:Nat} (hpa:aL la f=true) (hpb:aL lb g=true):aK (fC f la g lb 0 0)∧∀m,m.ok=true→aM (fC f la g lb 0 0) m=fU 1 g (fU 1 f (fun _=>0) la) lb m:=by obtain⟨_,h2,h3⟩:=jG (dR hpa) (dR hpb) (la-0+(lb-0)) 0 0 (Nat.le_refl _);refine⟨h2,fun m _=>?_⟩;rw[NP (dR hpa) (dR hpb),Int.one_mul];exact h3 m
theorem MU (w:World) (a b:Option Addr) (la ca lb cb:Nat) (f g:Nat→T) (ha:Rd w a la ca f) (hb:Rd w b lb cb g):Calls Tryz.prog 49 #[.slice a la ca,.slice b lb cb] w fun r w'=>∃a' cap',r= .returned (.tuple #[.slice a' (mO f la g lb).1.length cap',.bool (mO f la g lb).2])∧Below w.heap.size w w'∧iA w.heap.size w' a' cap' (mO f la g lb).1:=by
 have hc:=tK w a b la ca lb cb f g 1 (by omega) (by omega) ha hb (fC f la g lb 0 0) UQ;have e:xG 1 f la g lb (fC f la g lb 0 0)=mO f la g lb:=rfl
 rw[e]at hc;have hlen:=KA f la g lb
 generalize mO f la g lb=r at *;obtain⟨L,ok⟩:=r;go_enter Tryz.func49,Tryz.ntmps49;go_wp2_with (go_at_call 89;refine hc.mono ?_;rintro r w1 ⟨v,rfl,hb1,ho1⟩);refine cW (results_tmp2 rfl _ _ _) rfl ?_;obtain⟨a',cap',rfl,hout⟩:=aI ho1 (by omega);exact⟨a',cap',rfl,hb1,hout⟩
end Go.Proofs.YtmlaedpamobmhaaGreat
