/-
  What GrbMake hands back, laid open; boxes of bases.
-/
import Derived.Test.YtmlaedpamobmhaaGreatMBaf
namespace Go.Proofs.YtmlaedpamobmhaaGreat
open Go.RowKit Go.Deep Go.Joins
set_option linter.unusedVariables false
def Gs (w:World) (n m:Nat) (BL:Nat→List T) (BP:Nat→Nat→List T) (d:Bool) (e:Ending) (w':World):Prop:=∃(a:Option Addr) (c:Nat) (ad:Nat→Option Addr) (cp:Nat→Nat) (pa:Option Addr) (pc:Nat) (A:Nat→Option Addr) (C:Nat→Nat) (AD:Nat→Nat→Option Addr) (CP:Nat→Nat→Nat),e= .returned (.agg #[.slice a m c,.slice pa m pc,.bool d])∧Below w.heap.size w w'∧eJ w' a m c ad (lN BL) cp (fN BL)∧R3 w' pa m pc n A C AD CP BP
theorem BE {w:World} {n m:Nat} {BL:Nat→List T} {BP:Nat→Nat→List T} {d:Bool} (hm:m≤12) {e:Ending} {w':World} (h:sC w n (⟨m,BL,BP⟩,d) e w'):Gs w n m BL BP d e w':=by
 obtain⟨tvL,tvP,LS,PS,he,hb,hk⟩:=h;have hk':kI (fun b=>b<w.heap.size) w' w.heap.size tvL tvP n m BL m BP LS PS:=hk
 obtain⟨a,c,ad,cp,rfl,hr⟩:=hk'.readL (by omega);obtain⟨pa,pc,A,C,AD,CP,rfl,hp⟩:=hk'.readP (by omega);exact⟨a,c,ad,cp,pa,pc,A,C,AD,CP,he,hb,hr,hp⟩
theorem PR {o:Int} {n:Nat} {L:Nat→List T} {fuel:Int} {m:Nat} {BL:Nat→List T} {BP:Nat→Nat→List T} {d:Bool} (h:dK o n L fuel=(⟨m,BL,BP⟩,d)):m≤12:=by have:=uJ (o:=o) (n:=n) (L:=L) (fuel:=fuel);rw[h]at this;exact this
theorem Gm {w:World} {o:Int} {a:Option Addr} {n cap:Nat} {ad:Nat→Option Addr} {cp:Nat→Nat} {L:Nat→List T} (h:eJ w a n cap ad (lN L) cp (fN L)) {fuel:Int} {m:Nat} {BL:Nat→List T} {BP:Nat→Nat→List T} {d:Bool} (hX:dK o n L fuel=(⟨m,BL,BP⟩,d)):Calls Tryz.prog 10 #[.int .i64 o,.slice a n cap,.int .i64 fuel] w (Gs w n m BL BP d):=
 (SX w o a n cap ad cp L h fuel).mono fun e w' k=>BE (PR hX) (by rw[hX]at k;exact k)
theorem Hb {w:World} {o:Int} {a:Option Addr} {n cap:Nat} {ad:Nat→Option Addr} {cp:Nat→Nat} {L:Nat→List T} (h:eJ w a n cap ad (lN L) cp (fN L)) {fuel:Int} {m:Nat} {BL:Nat→List T} {BP:Nat→Nat→List T} {d:Bool} (hX:dK o n L fuel=(⟨m,BL,BP⟩,d)):Calls Tryz.prog 12 #[.int .i64 o,.slice a n cap,.int .i64 fuel] w (Gs w n m BL BP d):=
 (FL w o a n cap ad cp L h fuel).mono fun e w' k=>BE (PR hX) (by rw[hX]at k;exact k)
theorem DD {o:Int} {n:Nat} {L:Nat→List T} {fuel:Int} {m:Nat} {BL:Nat→List T} {BP:Nat→Nat→List T} {d:Bool} (h:dK o n L fuel=(⟨m,BL,BP⟩,d)):(m=0∧d=false)∨((1≤o∧o≤3)∧aU n (lN L) (fN L)=true∧(1≤n∧n≤3)∧(0≤fuel∧fuel≤60)∧n≤m∧(∀i,i<n→BL i=L i)∧aU m (lN BL) (fN BL)=true∧(d=true→ZZ o m BL)∧∀i,i<m→∀x,iX n (lN (BP i)) (fN (BP i)) n (lN L) (fN L)=(x,true)→x=BL i):=by
 rcases qW h with⟨h0,h1,_⟩|⟨⟨h1,h2,h3,h4⟩,j,hm,hj⟩
 ·exact .inl ⟨h0,h1⟩
 ·exact .inr ⟨h1,h2,h3,h4,hm.le,hm.pre,hm.ok.l,fun q=>hm.bas (hj q),fun i hi x hx=>hm.proof hi hx⟩
abbrev IZ (b:Nat) (v0 v1 v2:Value) (u:World):Prop:=u.cell? ⟨b,0,none⟩=some v0∧u.cell? ⟨b,1,none⟩=some v1∧u.cell? ⟨b,2,none⟩=some v2
theorem IZ.below {b:Nat} {v0 v1 v2:Value} {u u':World} (h:IZ b v0 v1 v2 u) (hb:Below u.heap.size u u'):IZ b v0 v1 v2 u':=
 ⟨(hb.cell (p:=⟨b,0,none⟩) (cE u _ h.1)).trans h.1,(hb.cell (p:=⟨b,1,none⟩) (cE u _ h.2.1)).trans h.2.1,(hb.cell (p:=⟨b,2,none⟩) (cE u _ h.2.2)).trans h.2.2⟩
end Go.Proofs.YtmlaedpamobmhaaGreat
