/-
  A term put into a sum, in the model.
  Sums while they are made: a map from monomials to numbers; what adding a term to it does.
  A sum while it is made, as the numbers of its monomials.
-/
import Derived.Maps.OwnSet
import Derived.Maps.OwnOps
import Derived.Maps.Views
import Derived.Maps.AppendAt
import Derived.Test.YtbkighpmkadmmaaMag
import Derived.Sort.Row
import Derived.Shelf.SlSortCmp.QuietGrown
import Derived.Shelf.SlSortCmp.InsertionK
import Derived.Shelf.Lay
import Derived.Ground.SlsfProg
import Derived.RangeFuncSeq
import Derived.RangeFuncGives
import Derived.Sort.MapsRangeIn
import Derived.Sort.KeysCollected
import Derived.Shelf.AbstractIn
import Derived.OwnWalkIn
import Derived.TacticsInMore
import Derived.RegionIn
import Derived.LoopNIn
import Derived.LoopIn
import Derived.Shelf.SlIter.Collect
import Derived.RangeFuncNested
import Derived.Test.YtbkighpmkadmmaaMah
import Derived.RangeFuncLeaves
import Derived.OrdersIn
import Derived.RangeFuncCalls
import Derived.Deep.Quiet
import Derived.Maps.OwnIn
import Derived.Shelf.SlSortCmp.WholeK
import Derived.Shelf.SlSortCmp.NoneTotal
import Derived.Test.YtbkighpmkadmmaaMaf
set_option maxHeartbeats 2000000
set_option maxRecDepth 100000
namespace Go.Proofs.Ytbkighpmkadmmaa
open Go.RowKit
set_option linter.unusedVariables false
def fQ (c:Int) (m:M) (L:List T):List T:=if c=0 then L else dS (lf L) L.length (fun _=>⟨c,m⟩) 1 0 0
def BT (L:List T):Prop:=∀t∈L,0≤t.c∧t.c≤100
theorem sG:BT []:=fun t ht=>by simp at ht
theorem nR {L:List T} {i:Nat} (h:i<L.length):lf L i∈L:=by unfold lf;rw[List.getD_eq_getElem?_getD,List.getElem?_eq_getElem h];exact List.getElem_mem h
theorem BT.at {L:List T} (h:BT L):∀i,i<L.length→0≤(lf L i).c∧(lf L i).c≤100:=fun i hi=>h _ (nR hi)
theorem sE {f:Nat→T} {la:Nat} {g:Nat→T} {lb:Nat} (hf:∀i,i<la→0≤(f i).c∧(f i).c≤100) (hg:∀i,i<lb→0≤(g i).c∧(g i).c≤100):∀(u i k:Nat),BT (dN f la g lb u i k)
 |0,_,_=>by intro t ht;simp[dN]at ht
 |u+1,i,k=>by
  have a1:=sE hf hg u (i+1) k;have a2:=sE hf hg u i (k+1)
  have a3:=sE hf hg u (i+1) (k+1);intro t ht;simp only[dN]at ht;split at ht
  ·rename_i hh;split at ht
   ·rcases List.mem_cons.1 ht with rfl|ht
    ·exact hf i hh.1
    ·exact a1 t ht
   ·split at ht
    ·rcases List.mem_cons.1 ht with rfl|ht
     ·exact hg k hh.2
     ·exact a2 t ht
    ·split at ht
     ·rcases List.mem_cons.1 ht with rfl|ht
      ·dsimp only;omega
      ·exact a3 t ht
     ·exact a3 t ht
  ·split at ht
   ·rename_i hh;rcases List.mem_cons.1 ht with rfl|ht
    ·exact hf i hh
    ·exact a1 t ht
   ·split at ht
    ·rename_i hh;rcases List.mem_cons.1 ht with rfl|ht
     ·exact hg k hh
     ·exact a2 t ht
    ·cases ht
theorem xT {c:Int} {m:M} {L:List T} (hL:BT L) (h0:0≤c) (h1:c≤100):BT (fQ c m L):=by
 unfold fQ;split
 ·exact hL
 ·exact sE hL.at (fun _ _=>⟨h0,h1⟩) _ _ _
theorem mY (c:Int) (m:M) (L:List T):(fQ c m L).length≤L.length+1:=by
 unfold fQ;split
 ·omega
 ·have:=pL (lf L) L.length (fun _=>⟨c,m⟩) 1 0 0;omega
theorem EN (w:World) (t:T):Rd (w.alloc (.cells #[.int .i64 t.c,.int .i64 t.m.x,.int .i64 t.m.y,.int .i64 t.m.d,.int .i64 t.m.e] 33)) (some ⟨w.heap.size,0,none⟩) 1 1 (fun _=>t):=by
 refine⟨Nat.le_refl _,by omega,.inr ⟨w.heap.size,0,rfl,by simp,fun i hi=>?_⟩⟩;obtain rfl:i=0:=by omega
 exact⟨by rw[World.cell?_alloc_at _ _ _ _ rfl];rfl,by rw[World.cell?_alloc_at _ _ _ _ rfl];rfl,by rw[World.cell?_alloc_at _ _ _ _ rfl];rfl,by rw[World.cell?_alloc_at _ _ _ _ rfl];rfl,by rw[World.cell?_alloc_at _ _ _ _ rfl];rfl⟩
theorem sO (w:World) (lo:Nat) (v:Value) (L:List T) (c x y d e:Int) (ho:w.ownsRow lo 33 5 v L.length (aG L)) (hlo:lo≤w.heap.size) (hl:L.length≤1000) (hL:BT L) (h0:0≤c) (h1:c≤100):Calls Try.prog 79 #[v,.int .i64 c,.agg #[.int .i64 x,.int .i64 y,.int .i64 d,.int .i64 e]] w fun r w'=>∃v',r= .returned v'∧Below w.heap.size w w'∧w'.ownsRow lo 33 5 v' (fQ c ⟨x,y,d,e⟩ L).length (aG (fQ c ⟨x,y,d,e⟩ L)):=by
 by_cases hc:c=0
 ·subst hc;have e1:fQ 0 ⟨x,y,d,e⟩ L=L:=by simp[fQ]
  rw[e1];have HO:=aA (cI ho (aC w (.cells #[.int .i64 x,.int .i64 y,.int .i64 d,.int .i64 e] 31)))
  clear ho e1;go_enter Try.func79,Try.ntmps79;go_wp2;go_ret;exact⟨_,rfl,aC w _,HO.out⟩
 ·have hcb:(c==0)=false:=by simp[hc]
  have e1:fQ c ⟨x,y,d,e⟩ L=dS (lf L) L.length (fun _=>⟨c,⟨x,y,d,e⟩⟩) 1 0 0:=by simp[fQ,hc]
  rw[e1];obtain⟨a,cap,rfl,hout⟩:=aI ho (by omega);have HR:=aA hout.1
  clear ho hout hc e1;go_enter Try.func79,Try.ntmps79;go_wp2_with fail;have ha:=aA ((HR.out.below (aC w (.cells #[.int .i64 x,.int .i64 y,.int .i64 d,.int .i64 e] 31))).below (aC _ (.cells #[.int .i64 c,.int .i64 x,.int .i64 y,.int .i64 d,.int .i64 e] 33)))
  have hb:=EN (w.alloc (.cells #[.int .i64 x,.int .i64 y,.int .i64 d,.int .i64 e] 31)) ⟨c,⟨x,y,d,e⟩⟩;have hb2:Rd ((w.alloc (.cells #[.int .i64 x,.int .i64 y,.int .i64 d,.int .i64 e] 31)).alloc (.cells #[.int .i64 c,.int .i64 x,.int .i64 y,.int .i64 d,.int .i64 e] 33)) (some ⟨w.heap.size+1,0,none⟩) 1 1 (fun _=>⟨c,⟨x,y,d,e⟩⟩):=by simpa using hb
  have hz:=aA (aB (aC w (.cells #[.int .i64 x,.int .i64 y,.int .i64 d,.int .i64 e] 31)) (aC _ (.cells #[.int .i64 c,.int .i64 x,.int .i64 y,.int .i64 d,.int .i64 e] 33)));clear hb;generalize((w.alloc (.cells #[.int .i64 x,.int .i64 y,.int .i64 d,.int .i64 e] 31)).alloc (.cells #[.int .i64 c,.int .i64 x,.int .i64 y,.int .i64 d,.int .i64 e] 33))=W at ha hb2 hz⊢;refine(kG _ _ _ _ _ _ _ (lf L) (fun _=>⟨c,⟨x,y,d,e⟩⟩) ha.out hb2 (by omega) hL.at (fun _ _=>⟨h0,h1⟩)).mono ?_;rintro r w1 ⟨v',rfl,hb1,hown⟩;have HB:=aA (aB hz.out hb1)
  have HO:=aA (xQ hown (kM hlo hz.out.size));clear hb2 hb1 hown ha hz HR;go_wp2;go_ret;exact⟨_,rfl,HB.out,HO.out⟩
open Go.RowKit Go.Maps
def NC (a b:M):Bool:=decide (a.x=b.x∧a.y=b.y∧a.d=b.d∧a.e=b.e)
theorem mT {a b:M}:NC a b=true↔a=b:=by cases a;cases b;simp[NC]
def BP (c:M→Int) (m:M) (v:Int) (x:M):Int:=if NC x m=true then(c m+v)%101 else c x
end Go.Proofs.Ytbkighpmkadmmaa
namespace Go.Proofs.Ytbkighpmkadmmaa
open Go.RowKit
set_option linter.unusedVariables false
theorem oJ (f:Nat→T) (m:M):∀(u i:Nat),dG f u (i+1) m=dG (fun j=>f (j+1)) u i m
 |0,_=>rfl
 |u+1,i=>by rw[dG,dG,oJ f m u (i+1)]
theorem mP (m:M):∀L:List T,dG (lf L) L.length 0 m=aQ L m
 |[]=>rfl
 |t::r=>by
  have e:(fun j=>lf (t::r) (j+1))=lf r:=by funext j;simp[lf]
  have e0:lf (t::r) 0=t:=rfl;rw[List.length_cons,dG,e0,aQ,oJ,e,mP m r]
theorem uT {L:List T} (h:aJ L):Fl (lf L) L.length:=by
 have at_:∀i (hi:i<L.length),lf L i=L[i]:=fun i hi=>by unfold lf;rw[List.getD_eq_getElem?_getD,List.getElem?_eq_getElem hi];rfl
 refine⟨fun j i hji hi=>?_,fun i hi=>?_⟩
 ·rw[at_ i hi,at_ j (by omega)];exact(List.pairwise_iff_getElem.1 h.1) j i (by omega) hi hji
 ·rw[at_ i hi];exact h.2 _ (List.getElem_mem hi)
theorem eF {L:List T} (h:aJ L) (m:M):0≤aQ L m∧aQ L m≤100:=by
 induction L with
 |nil=>simp[aQ]
 |cons t r ih=>
  rw[aQ];split
  ·have:=h.2 t (List.mem_cons_self ..);omega
  ·exact ih h.tail
theorem dE:aJ []:=⟨List.Pairwise.nil,fun t h=>by cases h⟩
def bT (K X:List T):List T:=dS (lf K) K.length (lf X) X.length 0 0
theorem cZ {K X:List T} (hK:aJ K) (hX:aJ X):aJ (bT K X)∧∀m,aQ (bT K X) m=(aQ K m+aQ X m)%101:=by obtain⟨_,h2,h3⟩:=iX (uT hK) (uT hX) (K.length-0+(X.length-0)) 0 0 (Nat.le_refl _);refine⟨h2,fun m=>(h3 m).trans ?_⟩;rw[Nat.sub_zero,Nat.sub_zero,mP,mP]
theorem mA {L:List T} (hL:aJ L) {c:Int} {m:M} (hm:m.ok=true) (c0:0≤c) (c1:c≤100):aJ (fQ c m L)∧∀x,aQ (fQ c m L) x=BP (aQ L) m c x:=by
 unfold fQ;by_cases hc:c=0
 ·rw[if_pos hc];refine⟨hL,fun x=>?_⟩;unfold BP;split
  ·rename_i hx;have:=eF hL m
   rw[mT.1 hx,hc];omega
  ·rfl
 ·rw[if_neg hc];have G:Fl (fun _=>(⟨c,m⟩:T)) 1:=⟨fun j i h1 h2=>by omega,fun i hi=>⟨hm,by show 1≤c;omega,c1⟩⟩
  obtain⟨_,h2,h3⟩:=iX (uT hL) G (L.length-0+(1-0)) 0 0 (Nat.le_refl _);refine⟨h2,fun x=>(h3 x).trans ?_⟩;rw[Nat.sub_zero,Nat.sub_zero,mP];show(aQ L x+(if eH m x=true then c else 0))%101=_
  have hr:=eF hL x;unfold BP;by_cases hx:x=m
  ·subst hx;rw[if_pos (bO.2 rfl),if_pos (mT.2 rfl)]
  ·rw[if_neg (fun e=>hx (bO.1 e).symm),if_neg (fun e=>hx (mT.1 e))];omega
def cT (xs:List T) (L:List T):List T:=xs.foldl (fun L t=>fQ t.c t.m L) L
def sD (c:M→Int) (xs:List T):M→Int:=xs.foldl (fun c t=>BP c t.m t.c) c
def MS (xs:List T):Prop:=∀t∈xs,t.m.ok=true∧0≤t.c∧t.c≤100
theorem jP:∀(xs:List T) (L:List T),MS xs→aJ L→aJ (cT xs L)∧aQ (cT xs L)=sD (aQ L) xs
 |[],L,_,hL=>⟨hL,rfl⟩
 |t::r,L,hx,hL=>by
  have h1:=hx t (List.mem_cons_self ..);have h2:=mA hL h1.1 h1.2.1 h1.2.2
  have h3:=jP r (fQ t.c t.m L) (fun s hs=>hx s (List.mem_cons_of_mem _ hs)) h2.1;refine⟨h3.1,?_⟩;show aQ (cT r (fQ t.c t.m L))=sD (BP (aQ L) t.m t.c) r
  rw[h3.2,funext h2.2]
def jM:Option (List T)→List T×Bool
 |some K=>(K,true)
 |none=>([],false)
theorem nM {L:List T} (h:aJ L):BT L:=fun t ht=>by have:=h.2 t ht;omega
def jC (f:Nat→T) (n:Nat):Prop:=∀i,i<n→(f i).m.ok=true∧0≤(f i).c∧(f i).c≤100
theorem bG {n:Nat} {f:Nat→T} (h:aL n f=true):n≤400∧jC f n:=by
 have hp:=h;simp only[aL,decide_eq_true_eq]at hp;refine⟨hp.1,fun i hi=>?_⟩;have:=(fI h).2 i hi
 exact⟨this.1,by omega,this.2.2⟩
def RL (w:World) (a:Option Addr) (c:Nat) (L:List T):Prop:=Rd w a L.length c (lf L)
theorem RL.below {w w':World} {a:Option Addr} {c:Nat} {L:List T} (h:RL w a c L) (hb:Below w.heap.size w w'):RL w' a c L:=Rd.below h hb
theorem fM {L:List T} {i:Nat} (h:i<L.length):lf L i=L[i]:=by unfold lf;rw[List.getD_eq_getElem?_getD,List.getElem?_eq_getElem h];rfl
theorem IF {w:World} {a:Option Addr} {n cap:Nat} {f:Nat→T} (h:Rd w a n cap f):∃L:List T,n=L.length∧RL w a cap L:=by
 refine⟨(List.range n).map f,by simp,?_⟩;have e:((List.range n).map f).length=n:=by simp
 have hf:∀i,i<n→lf ((List.range n).map f) i=f i:=fun i hi=>by rw[fM (by simpa using hi)];simp
 unfold RL;rw[e];refine⟨h.1,h.2.1,?_⟩;rcases h.2.2 with h0|⟨b,off,he,hlt,hc⟩
 ·exact .inl h0
 ·exact .inr ⟨b,off,he,hlt,fun i hi=>by rw[hf i hi];exact hc i hi⟩
def bZ (L:List T):Bool:=aL L.length (lf L)
theorem aH {L:List T} (h:bZ L=true):L.length≤400∧aJ L:=by
 have hF:=fI h;have hl:L.length≤400:=by unfold bZ at h;simp only[aL,decide_eq_true_eq]at h;exact h.1
 refine⟨hl,List.pairwise_iff_getElem.2 (fun i j hi hj hij=>?_),fun t ht=>?_⟩
 ·have:=hF.1 i j hij hj
  rwa[fM hi,fM hj]at this
 ·obtain⟨i,hi,rfl⟩:=List.mem_iff_getElem.1 ht;have:=hF.2 i hi
  rwa[fM hi]at this
theorem dX {L:List T} (hl:L.length≤400) (h:aJ L):bZ L=true:=by
 unfold bZ aL;rw[decide_eq_true_eq];refine⟨hl,fun i hi=>?_⟩;have h1:=h.2 (L[i]) (List.getElem_mem hi)
 simp only[gC,Bool.and_eq_true,Bool.or_eq_true,decide_eq_true_eq];rw[fM hi];refine⟨⟨h1.2,h1.1⟩,?_⟩;by_cases h0:i=0
 ·exact .inl h0
 ·refine .inr ?_;have hi1:i-1<L.length:=by omega
  rw[fM hi1];exact(mV (h.2 _ (List.getElem_mem hi1)).1 h1.1).2 ((List.pairwise_iff_getElem.1 h.1) (i-1) i hi1 hi (by omega))
theorem lA:bZ []=true:=dX (by simp) dE
theorem kA (L K:List T):(bT L K).length≤L.length+K.length:=by have:=pL (lf L) L.length (lf K) K.length 0 0;simpa[bT]using this
theorem uJ (m:M):aQ [] m=0:=rfl
def gN (c:Int) (L:List T):List T:=BK c (lf L) L.length
theorem dI (c:Int) (L:List T):(gN c L).length=L.length:=IY _ _ _
theorem jR (c:Int) (L:List T):gN c L=L.map (fun t=>⟨c*t.c%101,t.m⟩):=by
 refine List.ext_getElem (by simp[dI]) (fun i h1 h2=>?_);have hi:i<L.length:=by rw[dI]at h1;exact h1
 rw[←fM h1,gN,KK _ _ _ _ hi,fM hi];simp
theorem dV {c:Int} {L:List T} (c1:1≤c) (c2:c≤100) (h:aJ L):aJ (gN c L):=by
 rw[jR];refine⟨by rw[List.pairwise_map];exact h.1,fun t ht=>?_⟩;obtain⟨s,hs,rfl⟩:=List.mem_map.1 ht;have hr:=h.2 s hs
 have hne:=yN (a:=c) (b:=s.c) (by omega) (by omega) (by omega) (by omega);rw[fF (by omega) c2 (by omega) hr.2.2]at hne;exact⟨hr.1,by show 1≤c*s.c%101;omega,by show c*s.c%101≤100;omega⟩
theorem EX (c:Int) (m:M):∀L:List T,aQ (gN c L) m=c*aQ L m%101:=by
 intro L;rw[jR];induction L with
 |nil=>simp[aQ]
 |cons t r ih=>
  rw[List.map_cons,aQ,aQ];split
  ·rfl
  ·exact ih
def cA (L K:List T):List T:=bT L (gN 100 K)
def BN (L K:List T):List T×Bool:=kL (lf L) L.length (lf K) K.length
theorem zV (L K:List T):dS (lf L) L.length (KU (lf K) K.length) K.length 0 0=cA L K:=by unfold cA bT;rw[dI];rfl
theorem zW {L K:List T} (hL:bZ L=true) (hK:bZ K=true) (h:(cA L K).length≤400):BN L K=(cA L K,true):=by unfold BN kL;rw[zV];exact if_pos ⟨hL,hK,h⟩
theorem rR (L K:List T):BN L K=([],false)∨(bZ L=true∧bZ K=true∧(cA L K).length≤400∧BN L K=(cA L K,true)):=by
 by_cases h:bZ L=true∧bZ K=true∧(cA L K).length≤400
 ·exact .inr ⟨h.1,h.2.1,h.2.2,zW h.1 h.2.1 h.2.2⟩
 ·refine .inl ?_;unfold BN kL;rw[zV];exact if_neg h
theorem wG (L K:List T):(cA L K).length≤L.length+K.length:=by have:=kA L (gN 100 K);rw[dI]at this;exact this
theorem dB {L K:List T} (hL:aJ L) (hK:aJ K):aJ (cA L K)∧∀m,aQ (cA L K) m=(aQ L m+100*aQ K m%101)%101:=by
 have h:=cZ hL (dV (c:=100) (by omega) (by omega) hK);refine⟨h.1,fun m=>?_⟩;show aQ (bT L (gN 100 K)) m=_
 rw[h.2,EX]
theorem FH {L:List T} (hL:aJ L):cA L L=[]:=by
 have h1:=dB hL hL;refine kS h1.1 dE (fun m _=>?_);have r1:=eF hL m
 rw[h1.2,uJ];omega
theorem wH {L K:List T} (hL:aJ L) (hK:aJ K):cA L K=[]↔L=K:=by
 constructor
 ·intro h;have h1:=dB hL hK
  refine kS hL hK (fun m _=>?_);have h2:=h1.2 m
  rw[h,uJ]at h2;have r1:=eF hL m
  have r2:=eF hK m;omega
 ·intro h;rw[h];exact FH hK
end Go.Proofs.Ytbkighpmkadmmaa
namespace Go.Proofs.Ytbkighpmkadmmaa
set_option linter.unusedVariables false
abbrev Fq:=Fin 101
def zz (a:Int):Fq:=Fin.ofNat 101 (a%101).toNat
theorem gF (a:Int):zz (a%101)=zz a:=by unfold zz;rw[Int.emod_emod_of_dvd _ (Int.dvd_refl 101)]
theorem yF (a b:Int):zz (a+b)=zz a+zz b:=by unfold zz;apply Fin.ext;simp[Fin.val_add];omega
theorem FV {a b:Int} (ha:0≤a∧a≤100) (hb:0≤b∧b≤100) (h:zz a=zz b):a=b:=by unfold zz at h;have:=congrArg Fin.val h;simp at this;omega
theorem iP (a b:Int):zz (a*b)=zz a*zz b:=by
 unfold zz;apply Fin.ext;simp[Fin.val_mul];have h1:=Int.mul_emod a b 101
 have h2:((a%101).toNat:Int)=a%101:=by omega
 have h3:((b%101).toNat:Int)=b%101:=by omega
 have h4:(((a%101).toNat*(b%101).toNat%101:Nat):Int)=(a%101)*(b%101)%101:=by rw[Int.natCast_emod,Int.natCast_mul,h2,h3];rfl
 omega
theorem AC:zz 0=0:=rfl
theorem JX {a:Int} (h1:1≤a) (h2:a≤100):zz a≠0:=fun h=>by
 have:=FV (a:=a) (b:=0) ⟨by omega,h2⟩ ⟨by omega,by omega⟩ h;omega
def su {α:Type}:List α→(α→Fq)→Fq
 |[],_=>0
 |t::r,f=>f t+su r f
theorem qF {α:Type} (f g:α→Fq):∀L:List α,su L (fun t=>f t+g t)=su L f+su L g
 |[]=>by simp[su]
 |t::r=>by rw[su,su,su,qF f g r];grind
theorem yD {α:Type} (c:Fq) (f:α→Fq):∀L:List α,su L (fun t=>c*f t)=c*su L f
 |[]=>by show(0:Fq)=c*0;grind
 |t::r=>by rw[su,su,yD c f r];grind
theorem jS {α:Type} (f:α→Fq):∀L:List α,(∀t∈L,f t=0)→su L f=0
 |[],_=>rfl
 |t::r,h=>by rw[su,jS f r (fun s hs=>h s (List.mem_cons_of_mem _ hs)),h t (List.mem_cons_self ..)];rfl
theorem cF {α:Type} {f g:α→Fq}:∀{L:List α},(∀t∈L,f t=g t)→su L f=su L g
 |[],_=>rfl
 |t::r,h=>by rw[su,su,cF (L:=r) (fun s hs=>h s (List.mem_cons_of_mem _ hs)),h t (List.mem_cons_self ..)]
theorem gS {α:Type} (f:α→Fq):∀L K:List α,su (L++K) f=su L f+su K f
 |[],K=>by simp[su]
 |t::r,K=>by rw[List.cons_append,su,su,gS f r K];grind
theorem oE {α β:Type} (h:α→β) (f:β→Fq):∀L:List α,su (L.map h) f=su L (fun t=>f (h t))
 |[]=>rfl
 |t::r=>by rw[List.map_cons,su,su,oE h f r]
theorem tS {α β:Type} (h:α→List β) (f:β→Fq):∀L:List α,su (L.flatMap h) f=su L (fun t=>su (h t) f)
 |[]=>rfl
 |t::r=>by rw[List.flatMap_cons,gS,su,tS h f r]
abbrev Vq:=Nat→Nat→Fq
def va (u v:Vq):Vq:=fun n k=>u n k+v n k
def vs (c:Fq) (u:Vq):Vq:=fun n k=>c*u n k
structure Lq where
 f:Vq→Vq
 add:∀u v,f (va u v)=va (f u) (f v)
 smul:∀c u,f (vs c u)=vs c (f u)
theorem Lq.ext {A B:Lq} (h:∀u n k,A.f u n k=B.f u n k):A=B:=by have:A.f=B.f:=funext fun u=>funext fun n=>funext fun k=>h u n k;cases A;cases B;cases this;rfl
def v0:Vq:=fun _ _=>0
theorem Lq.zero (A:Lq):A.f v0=v0:=by
 have h:=A.smul 0 v0;have e:vs 0 v0=v0:=by funext n k;simp[vs,v0]
 rw[e]at h;rw[h];funext n k;show 0*_=(0:Fq);grind
namespace Lq
def mul (A B:Lq):Lq:=⟨fun u=>B.f (A.f u),fun u v=>by rw[A.add,B.add],fun c u=>by rw[A.smul,B.smul]⟩
def sum (A B:Lq):Lq:=⟨fun u=>va (A.f u) (B.f u),fun u v=>by rw[A.add,B.add];funext n k;simp only[va];grind,fun c u=>by rw[A.smul,B.smul];funext n k;simp only[va,vs];grind⟩
def sc (c:Fq) (A:Lq):Lq:=⟨fun u=>vs c (A.f u),fun u v=>by rw[A.add];funext n k;simp only[va,vs];grind,fun d u=>by rw[A.smul];funext n k;simp only[vs];grind⟩
def one:Lq:=⟨fun u=>u,fun _ _=>rfl,fun _ _=>rfl⟩
def nil:Lq:=⟨fun _=>v0,fun u v=>by funext n k;simp[va,v0],fun c u=>by funext n k;show(0:Fq)=c*0;grind⟩
def pow (A:Lq):Nat→Lq
 |0=>one
 |n+1=>mul (pow A n) A
theorem mul_assoc (A B C:Lq):mul (mul A B) C=mul A (mul B C):=rfl
theorem mul_one (A:Lq):mul A one=A:=rfl
theorem sum_mul (A B C:Lq):mul (sum A B) C=sum (mul A C) (mul B C):=Lq.ext fun u n k=>by show C.f (va _ _) n k=_;rw[C.add];rfl
theorem mul_sum (A B C:Lq):mul C (sum A B)=sum (mul C A) (mul C B):=rfl
theorem sc_mul (c:Fq) (A B:Lq):mul (sc c A) B=sc c (mul A B):=Lq.ext fun u n k=>by show B.f (vs _ _) n k=_;rw[B.smul];rfl
theorem mul_sc (c:Fq) (A B:Lq):mul A (sc c B)=sc c (mul A B):=rfl
theorem sc_sc (c d:Fq) (A:Lq):sc c (sc d A)=sc (c*d) A:=Lq.ext fun u n k=>by show c*(d*_)=c*d*_;grind
theorem sc_one (A:Lq):sc 1 A=A:=Lq.ext fun u n k=>by show 1*_=_;grind
theorem sc_zero (A:Lq):sc 0 A=nil:=Lq.ext fun u n k=>by show 0*_=(0:Fq);grind
theorem sc_sum (c:Fq) (A B:Lq):sc c (sum A B)=sum (sc c A) (sc c B):=Lq.ext fun u n k=>by show c*(_+_)=c*_+c*_;grind
theorem sc_add (c d:Fq) (A:Lq):sc (c+d) A=sum (sc c A) (sc d A):=Lq.ext fun u n k=>by show(c+d)*_=c*_+d*_;grind
theorem sum_comm (A B:Lq):sum A B=sum B A:=Lq.ext fun u n k=>by show _+_=_+_;grind
theorem sum_assoc (A B C:Lq):sum (sum A B) C=sum A (sum B C):=Lq.ext fun u n k=>by show _+_+_=_+(_+_);grind
theorem sum_nil (A:Lq):sum A nil=A:=Lq.ext fun u n k=>by show _+(0:Fq)=_;grind
theorem nil_mul (A:Lq):mul nil A=nil:=Lq.ext fun u n k=>by show A.f v0 n k=_;rw[A.zero];rfl
theorem mul_nil (A:Lq):mul A nil=nil:=rfl
theorem pow_succ' (A:Lq):∀n,pow A (n+1)=mul A (pow A n)
 |0=>rfl
 |n+1=>by show mul (pow A (n+1)) A=mul A (mul (pow A n) A);rw[pow_succ' A n,mul_assoc]
theorem pow_add (A:Lq) (n:Nat):∀m,pow A (n+m)=mul (pow A n) (pow A m)
 |0=>rfl
 |m+1=>by rw[←Nat.add_assoc,pow,pow_add A n m,pow,mul_assoc]
def Com (A B:Lq):Prop:=mul A B=mul B A
theorem Com.symm {A B:Lq} (h:Com A B):Com B A:=Eq.symm h
theorem Com.one (A:Lq):Com A Lq.one:=rfl
theorem Com.mul {A B C:Lq} (h1:Com A B) (h2:Com A C):Com A (Lq.mul B C):=by unfold Com at *;rw[←mul_assoc,h1,mul_assoc,h2,mul_assoc]
theorem Com.pow {A B:Lq} (h:Com A B):∀n,Com A (Lq.pow B n)
 |0=>Com.one A
 |n+1=>(h.pow n).mul h
theorem Com.pows {A B:Lq} (h:Com A B) (m n:Nat):Com (Lq.pow A m) (Lq.pow B n):=((h.pow n).symm.pow m).symm
def sumN (f:Nat→Lq):Nat→Lq
 |0=>nil
 |n+1=>sum (sumN f n) (f n)
theorem sumN_sum (f g:Nat→Lq):∀n,sumN (fun i=>sum (f i) (g i)) n=sum (sumN f n) (sumN g n)
 |0=>(sum_nil nil).symm
 |n+1=>by rw[sumN,sumN,sumN,sumN_sum f g n];exact Lq.ext fun u n k=>by show _+_+(_+_)=_+_+(_+_);grind
theorem mul_sumN (A:Lq) (f:Nat→Lq):∀n,mul A (sumN f n)=sumN (fun i=>mul A (f i)) n
 |0=>rfl
 |n+1=>by rw[sumN,mul_sum,mul_sumN A f n];rfl
theorem sumN_congr {f g:Nat→Lq}:∀{n},(∀i,i<n→f i=g i)→sumN f n=sumN g n
 |0,_=>rfl
 |n+1,h=>by rw[sumN,sumN,sumN_congr (n:=n) (fun i hi=>h i (by omega)),h n (by omega)]
theorem sumN_head (f:Nat→Lq):∀n,sumN f (n+1)=sum (f 0) (sumN (fun i=>f (i+1)) n)
 |0=>by rw[sumN,sumN,sumN,sum_comm]
 |n+1=>by rw[sumN,sumN_head f n,sumN,sum_assoc]
theorem sumN_cut {f:Nat→Lq} {m n:Nat} (h:m≤n) (h0:∀i,m≤i→f i=nil):sumN f n=sumN f m:=by
 induction n with
 |zero=>rw[show m=0 by omega]
 |succ n ih=>
  by_cases e:m=n+1
  ·rw[e]
  ·rw[sumN,h0 n (by omega),sum_nil,ih (by omega)]
end Lq
def JQ:Nat→Nat→Nat
 |_,0=>1
 |0,_+1=>0
 |n+1,k+1=>JQ n (k+1)+JQ n k
def yP (c:Nat):Nat→Nat
 |0=>1
 |i+1=>yP c i*(c-i)
theorem mJ:∀n k,n<k→JQ n k=0
 |0,k+1,_=>by rw[JQ]
 |n+1,k+1,h=>by rw[JQ,mJ n (k+1) (by omega),mJ n k (by omega)]
theorem pM (n:Nat):JQ n 0=1:=by cases n<;>rfl
theorem mO (c:Nat):∀i,c<i→yP c i=0
 |i+1,h=>by
  rw[yP];by_cases e:c=i
  ·rw[e];simp
  ·rw[mO c i (by omega)];simp
def nf (n:Nat):Fq:=Fin.ofNat 101 n
theorem nS (a b:Nat):nf (a+b)=nf a+nf b:=by unfold nf;apply Fin.ext;simp[Fin.val_add]
theorem xO (a b:Nat):nf (a*b)=nf a*nf b:=by unfold nf;apply Fin.ext;simp[Fin.val_mul]
theorem jN:nf 1=1:=rfl
theorem eE:nf 0=0:=rfl
def LM (x d:Lq):Prop:=Lq.mul d x=Lq.sum (Lq.mul x d) Lq.one
theorem AA {x d:Lq} (h:LM x d):∀c,Lq.mul d (Lq.pow x c)=Lq.sum (Lq.mul (Lq.pow x c) d) (Lq.sc (nf c) (Lq.pow x (c-1)))
 |0=>by rw[eE,Lq.sc_zero,Lq.sum_nil];rfl
 |c+1=>by
  rw[Lq.pow,←Lq.mul_assoc,AA h c,Lq.sum_mul,Lq.mul_assoc,h,Lq.mul_sum,Lq.mul_one,Lq.sc_mul,←Lq.mul_assoc,Lq.sum_assoc,nS,Lq.sc_add,jN,Lq.sc_one];congr 1;show Lq.sum (Lq.pow x c) _=Lq.sum _ (Lq.pow x (c+1-1))
  rw[Lq.sum_comm];congr 1;cases c with
  |zero=>rw[eE,Lq.sc_zero,Lq.sc_zero]
  |succ c=>rfl
def wN (b c i:Nat):Nat:=JQ b i*yP c i
theorem rU {x d:Lq} (h:LM x d) (c:Nat):∀b,Lq.mul (Lq.pow d b) (Lq.pow x c)=Lq.sumN (fun i=>Lq.sc (nf (wN b c i)) (Lq.mul (Lq.pow x (c-i)) (Lq.pow d (b-i)))) (b+1)
 |0=>by
  show Lq.pow x c=Lq.sum Lq.nil (Lq.sc (nf (wN 0 c 0)) (Lq.mul (Lq.pow x (c-0)) Lq.one));rw[Lq.sum_comm,Lq.sum_nil];show _=Lq.sc (nf 1) _
  rw[jN,Lq.sc_one];rfl
 |b+1=>by
  rw[Lq.pow_succ',Lq.mul_assoc,rU h c b,Lq.mul_sumN];have e1:Lq.sumN (fun i=>Lq.mul d (Lq.sc (nf (wN b c i)) (Lq.mul (Lq.pow x (c-i)) (Lq.pow d (b-i))))) (b+1)=Lq.sumN (fun i=>Lq.sum (Lq.sc (nf (wN b c i)) (Lq.mul (Lq.pow x (c-i)) (Lq.pow d (b+1-i)))) (Lq.sc (nf (wN b c i*(c-i))) (Lq.mul (Lq.pow x (c-(i+1))) (Lq.pow d (b-i))))) (b+1):=by refine Lq.sumN_congr (fun i hi=>?_);rw[Lq.mul_sc,←Lq.mul_assoc,AA h,Lq.sum_mul,Lq.sc_sum,Lq.mul_assoc,←Lq.pow_succ',Lq.sc_mul,Lq.sc_sc,xO,show b-i+1=b+1-i by omega,show c-i-1=c-(i+1) by omega]
  rw[e1,Lq.sumN_sum];rw[Lq.sumN_head (fun i=>Lq.sc (nf (wN (b+1) c i)) (Lq.mul (Lq.pow x (c-i)) (Lq.pow d (b+1-i))))];have e2:Lq.sumN (fun i=>Lq.sc (nf (wN (b+1) c (i+1))) (Lq.mul (Lq.pow x (c-(i+1))) (Lq.pow d (b+1-(i+1))))) (b+1)=Lq.sum (Lq.sumN (fun i=>Lq.sc (nf (wN b c (i+1))) (Lq.mul (Lq.pow x (c-(i+1))) (Lq.pow d (b+1-(i+1))))) (b+1)) (Lq.sumN (fun i=>Lq.sc (nf (wN b c i*(c-i))) (Lq.mul (Lq.pow x (c-(i+1))) (Lq.pow d (b-i)))) (b+1)):=by
   rw[←Lq.sumN_sum];refine Lq.sumN_congr (fun i hi=>?_);have:wN (b+1) c (i+1)=wN b c (i+1)+wN b c i*(c-i):=by unfold wN;rw[JQ,yP,Nat.add_mul,Nat.mul_assoc]
   rw[this,nS,Lq.sc_add,show b+1-(i+1)=b-i by omega]
  rw[e2,←Lq.sum_assoc];congr 1;rw[show wN (b+1) c 0=wN b c 0 by simp[wN,pM],←Lq.sumN_head (fun i=>Lq.sc (nf (wN b c i)) (Lq.mul (Lq.pow x (c-i)) (Lq.pow d (b+1-i)))),Lq.sumN.eq_2 _ (b+1)];have:wN b c (b+1)=0:=by unfold wN;rw[mJ b (b+1) (by omega),Nat.zero_mul]
  rw[this,eE,Lq.sc_zero,Lq.sum_nil]
open Go.RowKit
set_option linter.unusedVariables false
def KC (n:Nat):M:=⟨((n / 4096:Nat):Int),((n / 256%16:Nat):Int),((n / 16%16:Nat):Int),((n%16:Nat):Int)⟩
def box:List M:=(List.range 65536).map KC
theorem sF {m:M} (h:m.ok=true):m∈box:=by obtain⟨x1,x2,y1,y2,d1,d2,e1,e2⟩:=M.ok_iff.1 h;refine List.mem_map.2 ⟨m.x.toNat*4096+m.y.toNat*256+m.d.toNat*16+m.e.toNat,List.mem_range.2 (by omega),?_⟩;cases m;simp only[KC,M.mk.injEq]at *;refine⟨by omega,by omega,by omega,by omega⟩
theorem nI:box.Nodup:=by unfold box;rw[List.Nodup,List.pairwise_map];refine(List.nodup_range (n:=65536)).imp (fun{a b} hab e=>hab ?_);simp only[KC,M.mk.injEq]at e;omega
theorem bY {a b:M}:eH a b=true↔a=b:=by cases a;cases b;simp[eH]
theorem lC (m:M) (v:Fq):∀S:List M,S.Nodup→m∈S→su S (fun x=>if eH m x=true then v else 0)=v
 |[],_,h=>by cases h
 |t::r,hn,h=>by
  rw[List.nodup_cons]at hn;rw[su];by_cases e:eH m t=true
  ·rw[if_pos e,jS _ r (fun s hs=>if_neg (fun e2=>hn.1 (by rw[←bY.1 e,bY.1 e2];exact hs)))]
   grind
  ·rw[if_neg e,lC m v r hn.2 (by
    rcases List.mem_cons.1 h with h|h
    ·exact absurd (bY.2 h) e
    ·exact h)]
   grind
def iE (φ:M→Fq) (L:List T):Fq:=su L (fun t=>zz t.c*φ t.m)
theorem sS (φ:M→Fq):iE φ []=0:=rfl
theorem jL (φ:M→Fq):∀{L:List T},aJ L→iE φ L=su box (fun m=>zz (aQ L m)*φ m)
 |[],_=>by
  rw[sS,jS];intro t _;show zz 0*φ t=0
  rw[AC];grind
 |t::r,h=>by
  have hr:=jL φ h.tail;have ht:=h.2 t (List.mem_cons_self ..)
  have h0:aQ r t.m=0:=gQ (List.pairwise_cons.1 h.1).1;have e:su box (fun m=>zz (aQ (t::r) m)*φ m)=su box (fun m=>(if eH t.m m=true then zz t.c*φ t.m else 0)+zz (aQ r m)*φ m):=by
   refine cF (fun m _=>?_);rw[aQ];by_cases e:eH t.m m=true
   ·rw[if_pos e,if_pos e,←bY.1 e,h0,AC];grind
   ·rw[if_neg e,if_neg e];grind
  rw[e,qF,lC t.m _ box nI (sF ht.1),←hr];rfl
theorem yZ (φ:M→Fq) {L K:List T} (hL:aJ L) (hK:aJ K):iE φ (bT L K)=iE φ L+iE φ K:=by have h:=cZ hL hK;rw[jL φ h.1,jL φ hL,jL φ hK,←qF];refine cF (fun m _=>?_);rw[h.2,gF,yF];grind
theorem KN (φ:M→Fq) (c:Int) (L:List T):iE φ (gN c L)=zz c*iE φ L:=by
 unfold iE;rw[jR,oE,←yD];refine cF (fun t _=>?_);show zz (c*t.c%101)*φ t.m=_
 rw[gF,iP];grind
theorem ID (φ:M→Fq) {L:List T} (hL:aJ L) {c:Int} {m:M} (hm:m.ok=true) (c0:0≤c) (c1:c≤100):iE φ (fQ c m L)=iE φ L+zz c*φ m:=by
 have h:=mA hL hm c0 c1;have e:su box (fun x=>zz (aQ (fQ c m L) x)*φ x)=su box (fun x=>(if eH m x=true then zz c*φ m else 0)+zz (aQ L x)*φ x):=by
  refine cF (fun x _=>?_);rw[h.2,BP];by_cases e:x=m
  ·rw[if_pos (mT.2 e),if_pos (bY.2 e.symm),gF,yF,e];grind
  ·rw[if_neg (fun q=>e (mT.1 q)),if_neg (fun q=>e (bY.1 q).symm)];grind
 rw[jL φ h.1,e,qF,lC m _ box nI (sF hm),jL φ hL]
 grind
theorem lV (φ:M→Fq):∀(xs:List T) {L:List T},MS xs→aJ L→iE φ (cT xs L)=iE φ L+iE φ xs
 |[],L,_,hL=>by show iE φ L=iE φ L+0;grind
 |t::r,L,hx,hL=>by
  have h1:=hx t (List.mem_cons_self ..);show iE φ (cT r (fQ t.c t.m L))=_
  rw[lV φ r (fun s hs=>hx s (List.mem_cons_of_mem _ hs)) (mA hL h1.1 h1.2.1 h1.2.2).1,ID φ hL h1.1 h1.2.1 h1.2.2];show _=iE φ L+(zz t.c*φ t.m+iE φ r)
  grind
theorem IE (φ ψ:M→Fq) (L:List T):iE (fun m=>φ m+ψ m) L=iE φ L+iE ψ L:=by unfold iE;rw[←qF];exact cF (fun t _=>by grind)
theorem IC (c:Fq) (φ:M→Fq) (L:List T):iE (fun m=>c*φ m) L=c*iE φ L:=by unfold iE;rw[←yD];exact cF (fun t _=>by grind)
structure nE where
 x:Lq
 y:Lq
 d:Lq
 e:Lq
 wx:LM x d
 wy:LM y e
 xy:Lq.Com x y
 xe:Lq.Com x e
 dy:Lq.Com d y
 de:Lq.Com d e
def mo (g:nE) (m:M):Lq:=Lq.mul (Lq.mul (Lq.pow g.x m.x.toNat) (Lq.pow g.y m.y.toNat)) (Lq.mul (Lq.pow g.d m.d.toNat) (Lq.pow g.e m.e.toNat))
def Rp (g:nE) (L:List T):Lq:=⟨fun u n k=>iE (fun m=>(mo g m).f u n k) L,fun u v=>by
 funext n k;show iE (fun m=>(mo g m).f (va u v) n k) L=_
 rw[show(fun m=>(mo g m).f (va u v) n k)=(fun m=>(mo g m).f u n k+(mo g m).f v n k)from funext fun m=>by rw[(mo g m).add];rfl,IE];rfl,fun c u=>by
 funext n k;show iE (fun m=>(mo g m).f (vs c u) n k) L=_
 rw[show(fun m=>(mo g m).f (vs c u) n k)=(fun m=>c*(mo g m).f u n k)from funext fun m=>by rw[(mo g m).smul];rfl,IC]
 rfl⟩
theorem jZ (g:nE):Rp g []=Lq.nil:=rfl
theorem nG (g:nE) {L K:List T} (hL:aJ L) (hK:aJ K):Rp g (bT L K)=Lq.sum (Rp g L) (Rp g K):=Lq.ext fun u n k=>yZ (fun m=>(mo g m).f u n k) hL hK
theorem uF (g:nE) (c:Int) (L:List T):Rp g (gN c L)=Lq.sc (zz c) (Rp g L):=Lq.ext fun u n k=>KN (fun m=>(mo g m).f u n k) c L
theorem pK (g:nE) {L K:List T} (hL:aJ L) (hK:aJ K):Rp g (cA L K)=Lq.sum (Rp g L) (Lq.sc (zz 100) (Rp g K)):=by unfold cA;rw[nG g hL (dV (by omega) (by omega) hK),uF]
theorem pJ (g:nE) (t:T):Rp g [t]=Lq.sc (zz t.c) (mo g t.m):=Lq.ext fun u n k=>by
 show zz t.c*_+0=zz t.c*_
 grind
theorem tT (f:Nat→Lq) (u:Vq) (p q:Nat):∀n,(Lq.sumN f n).f u p q=su (List.range n) (fun i=>(f i).f u p q)
 |0=>rfl
 |n+1=>by
  rw[List.range_succ,gS,←tT f u p q n];show _+_=_+(_+0)
  grind
theorem LC {b c i:Nat} (h:min b c<i):wN b c i=0:=by
 unfold wN;by_cases hb:b<i
 ·rw[mJ b i hb,Nat.zero_mul]
 ·rw[mO c i (by omega),Nat.mul_zero]
theorem lB {x d:Lq} (h:LM x d) (b c:Nat):Lq.mul (Lq.pow d b) (Lq.pow x c)=Lq.sumN (fun i=>Lq.sc (nf (wN b c i)) (Lq.mul (Lq.pow x (c-i)) (Lq.pow d (b-i)))) (min b c+1):=by rw[rU h];refine Lq.sumN_cut (by omega) (fun i hi=>?_);rw[LC (by omega),eE,Lq.sc_zero]
open Go.RowKit Go.Sort
open Go.RowKit Go.Sort Go.Shelf Go.Lib
abbrev OM:Type:={m:M // m.ok=true}
instance:Inhabited OM:=⟨⟨⟨0,0,0,0⟩,by decide⟩⟩
shelf_lay_g SlLaysF0.n6 Slsf 6 at Try 132 as sortM
end Go.Proofs.Ytbkighpmkadmmaa
namespace Go.Proofs.Ytbkighpmkadmmaa
open Go.RowKit Go.Maps Go.Sort
set_option linter.unusedVariables false
end Go.Proofs.Ytbkighpmkadmmaa
namespace Go.Proofs.Ytbkighpmkadmmaa
open Go.RowKit Go.Maps
set_option linter.unusedVariables false
open Go.RowKit Go.Maps Go.Sort Go.Shelf
attribute [local go_sem] Oper.semAt_some
theorem iS {m:M}:∀{L:List T},aQ L m≠0→m∈L.map (·.m)
 |[],h=>absurd rfl h
 |t::r,h=>by
  rw[aQ]at h;by_cases ht:eH t.m m=true
  ·simp[bO.1 ht]
  ·rw[if_neg ht]at h;simpa using Or.inr (by simpa using iS h)
end Go.Proofs.Ytbkighpmkadmmaa
namespace Go.Proofs.Ytbkighpmkadmmaa
open Go.RowKit Go.Maps Go.Sort Go.Shelf
set_option linter.unusedVariables false
attribute [local go_sem] Oper.semAt_some
theorem iG {W:World} {base base':Nat} {e:TypeId} {size:Nat} {v:Value} {n:Nat} {xs:List Value} (h:W.ownsRow base e size v n xs) (hb:base'≤base):W.ownsRow base' e size v n xs:=
 ⟨h.1,h.2.imp id (fun⟨g,cap,cur,a,b,r⟩=>⟨g,cap,cur,a,kM hb b,r⟩)⟩
end Go.Proofs.Ytbkighpmkadmmaa
namespace Go.Proofs.Ytbkighpmkadmmaa
open Go.RowKit Go.Maps Go.Sort Go.Shelf
set_option linter.unusedVariables false
end Go.Proofs.Ytbkighpmkadmmaa
namespace Go.Proofs.Ytbkighpmkadmmaa
open Go.RowKit
set_option linter.unusedVariables false
def CB (w:World) (X:List T×Bool) (e:Ending) (w':World):Prop:=∃a' c',e= .returned (.tuple #[.slice a' X.1.length c',.bool X.2])∧Below w.heap.size w w'∧RL w' a' c' X.1
def LJ (w:World) (X:List T) (e:Ending) (w':World):Prop:=∃a' c',e= .returned (.slice a' X.length c')∧Below w.heap.size w w'∧RL w' a' c' X
def NI (w:World) (v:Value) (e:Ending) (w':World):Prop:=e= .returned v∧Below w.heap.size w w'
theorem EM {w:World} {a:Option Addr} {n cap:Nat} {f g:Nat→T} (h:Rd w a n cap f) (e:∀i,i<n→f i=g i):Rd w a n cap g:=
 ⟨h.1,h.2.1,h.2.2.imp id (fun⟨b,off,h1,h2,h3⟩=>⟨b,off,h1,h2,fun i hi=>by rw[←e i hi];exact h3 i hi⟩)⟩
theorem eT (w:World) (t:T):RL (w.alloc (.cells #[.int .i64 t.c,.int .i64 t.m.x,.int .i64 t.m.y,.int .i64 t.m.d,.int .i64 t.m.e] 33)) (some ⟨w.heap.size,0,none⟩) 1 [t]:=
 EM (n:=1) (g:=lf [t]) (EN w t) (fun i hi=>by
  have h0:i=0:=by omega
  subst h0
  rfl)
theorem wO {w:World} {X:List T×Bool} {e:Ending} {w':World} (hl:X.1.length≤400) (h:∃v,e= .returned (.tuple #[v,.bool X.2])∧Below w.heap.size w w'∧w'.ownsRow w.heap.size 33 5 v X.1.length (aG X.1)):CB w X e w':=by obtain⟨v,h1,h2,h3⟩:=h;obtain⟨a',c',rfl,h4⟩:=aI h3 (by omega);exact⟨a',c',h1,h2,h4.1⟩
theorem DT {w:World} {X:List T} {e:Ending} {w':World} (hl:X.length≤400) (h:∃v,e= .returned v∧Below w.heap.size w w'∧w'.ownsRow w.heap.size 33 5 v X.length (aG X)):LJ w X e w':=by obtain⟨v,h1,h2,h3⟩:=h;obtain⟨a',c',rfl,h4⟩:=aI h3 (by omega);exact⟨a',c',h1,h2,h4.1⟩
variable {w:World} {a b:Option Addr} {ca cb:Nat} {L K:List T}
theorem MC (ha:RL w a ca L):Calls Try.prog 40 #[.slice a L.length ca] w (NI w (.bool (bZ L))):=iL w a L.length ca (lf L) ha
theorem CY (w:World):Calls Try.prog 14 #[] w (NI w (.bool true)):=by
 have h1:∀u:World,Calls Try.prog 19 #[] u fun e w'=>e= .returned (.slice (some ⟨u.heap.size,0,none⟩) 1 1)∧Below u.heap.size u w'∧RL w' (some ⟨u.heap.size,0,none⟩) 1 [⟨1,⟨0,0,0,0⟩⟩]:=fun u=>by go_enter Try.func19,Try.ntmps19;go_wp2;go_ret;exact⟨rfl,aC u _,eT u ⟨1,⟨0,0,0,0⟩⟩⟩
 have h2:bZ [⟨1,⟨0,0,0,0⟩⟩]=true:=by decide
 go_enter Try.func14,Try.ntmps14;go_wp2_with fail;refine(h1 _).mono ?_;rintro e w1 ⟨rfl,hb1,hr1⟩;have HR1:=aA hr1
 have HB1:=aA hb1;clear hr1 hb1;go_wp2_with fail;refine(MC HR1.out).mono ?_;rw[h2];rintro e w2 ⟨rfl,hb2⟩;go_wp2;go_ret;exact⟨rfl,aB HB1.out hb2⟩
end Go.Proofs.Ytbkighpmkadmmaa
