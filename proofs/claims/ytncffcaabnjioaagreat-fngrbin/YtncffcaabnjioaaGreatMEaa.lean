/-
  What the helpers of the exact laws do: they copy terms, hold them against each other, write marks into them and look for
-/
import Derived.Test.YtncffcaabnjioaaGreatMCaa
import Derived.Test.YtncffcaabnjioaaGreatMBaa
set_option maxHeartbeats 1000000
namespace Go.Proofs.YtncffcaabnjioaaGreat
open Go.RowKit
set_option linter.unusedVariables false
def oV (f:Nat→T) (la:Nat) (g:Nat→T) (lb:Nat):List T×Bool:=
 if aN la f=true∧aN lb g=true∧(eI f la g lb 0 0).length≤400 then(eI f la g lb 0 0,true)else([],false)
theorem FY (f:Nat→T) (la:Nat) (g:Nat→T) (lb:Nat):(oV f la g lb).1.length≤400:=by
 unfold oV;split
 ·rename_i h;exact h.2.2
 ·simp
def CH (L K:List T):List T×Bool:=oV (lf L) L.length (lf K) K.length
theorem KG (L K:List T):CH L K=([],false)∨(cT L=true∧cT K=true∧(cF L K).length≤400∧CH L K=(cF L K,true)):=by
 by_cases h:cT L=true∧cT K=true∧(cF L K).length≤400
 ·exact .inr ⟨h.1,h.2.1,h.2.2,if_pos h⟩
 ·exact .inl (if_neg h)
open Go.RowKit Go.Maps Go.Sort Go.Shelf
theorem PY {f g:Nat→T} {la lb:Nat} (hpa:aN la f=true) (hpb:aN lb g=true):aK (eI f la g lb 0 0)∧∀m,m.ok=true→aL (eI f la g lb 0 0) m=fE 1 g (fE 1 f (fun _=>0) la) lb m:=by obtain⟨_,h2,h3⟩:=iQ (dE hpa) (dE hpb) (la-0+(lb-0)) 0 0 (Nat.le_refl _);refine⟨h2,fun m _=>?_⟩;rw[JP (dE hpa) (dE hpb),Int.one_mul];exact h3 m
theorem VB (w:World) (a b:Option Addr) (la ca lb cb:Nat) (f g:Nat→T) (ha:Rd w a la ca f) (hb:Rd w b lb cb g):Calls Tryz.prog 17 #[.slice a la ca,.slice b lb cb] w fun r w'=>∃a' cap',r= .returned (.tuple #[.slice a' (oV f la g lb).1.length cap',.bool (oV f la g lb).2])∧Below w.heap.size w w'∧lI w.heap.size w' a' cap' (oV f la g lb).1:=by
 have hc:=sI w a b la ca lb cb f g 1 (by omega) (by omega) ha hb (eI f la g lb 0 0) PY;have e:vR 1 f la g lb (eI f la g lb 0 0)=oV f la g lb:=rfl
 rw[e]at hc;have hlen:=FY f la g lb
 generalize oV f la g lb=r at *;obtain⟨L,ok⟩:=r;go_enter Tryz.func17,Tryz.ntmps17;go_wp2_with (go_at_call 56;refine hc.mono ?_;rintro r w1 ⟨v,rfl,hb1,ho1⟩);refine cB (results_tmp2 rfl _ _ _) rfl ?_;obtain⟨a',cap',rfl,hout⟩:=aH ho1 (by omega);exact⟨a',cap',rfl,hb1,hout⟩
end Go.Proofs.YtncffcaabnjioaaGreat
namespace Go.Proofs.YtncffcaabnjioaaGreat
open Go.RowKit
set_option linter.unusedVariables false
variable {w:World} {a b:Option Addr} {ca cb:Nat} {L K:List T}
theorem EW (ha:RL w a ca L) (hb:RL w b cb K):Calls Tryz.prog 17 #[.slice a L.length ca,.slice b K.length cb] w (zS w (CH L K)):=
 (VB w a b L.length ca K.length cb (lf L) (lf K) ha hb).mono fun _ _ h=>BS h
end Go.Proofs.YtncffcaabnjioaaGreat
namespace Go.Proofs.YtncffcaabnjioaaGreat
open Go.RowKit
set_option linter.unusedVariables false
attribute [local go_sem] Oper.semAt_some
end Go.Proofs.YtncffcaabnjioaaGreat
namespace Go.Proofs.YtncffcaabnjioaaGreat
open Go.RowKit Go.Deep Go.Joins
set_option linter.unusedVariables false
theorem KH {A B P:List T} (h:CH A B=(P,true)):cT A=true∧cT B=true∧P=cF A B:=by
 rcases KG A B with e|⟨h1,h2,_,e⟩
 ·rw[e]at h;cases h
 ·rw[e]at h;cases h;exact⟨h1,h2,rfl⟩
theorem FL {o:Int} {n:Nat} {L:Nat→List T} (hB:JW o n L) {k m:Nat} (hk:k<n) (hm:m<n) {q p X Y S:List T} (h1:lF q (L k)=(X,true)) (h2:lF p (L m)=(Y,true)) (h3:CH X Y=(S,true)) {D:Dv} (hD:aP o S n (lN L) (fN L)=some D):nZ (some D)=true:=by refine pH (hB.left hD ?_);obtain⟨oX,oY,rfl⟩:=KH h3;rw[qH aI (aE oX).2 (aE oY).2];exact(wW (zM hk) h1).sum (wW (zM hm) h2)
end Go.Proofs.YtncffcaabnjioaaGreat
