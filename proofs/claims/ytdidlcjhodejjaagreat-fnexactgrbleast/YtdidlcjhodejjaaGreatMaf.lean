/-
  The merge of two operators has their sums as its numbers, and falls.
-/
import Derived.Test.YtdidlcjhodejjaaGreatMae
import Derived.Orders
import Derived.Deep.RegionWith
import Derived.Maps.OwnSet
import Derived.Maps.OwnOps
import Derived.Maps.Views
import Derived.Maps.AppendAt
set_option maxHeartbeats 4000000
set_option maxRecDepth 100000
namespace Go.Proofs.YtdidlcjhodejjaaGreat
open Go.RowKit
set_option linter.unusedVariables false
def dN (f:Nat→T):Nat→Nat→M→Int
 |0,_,_=>0
 |u+1,i,m=>if eF (f i).m m=true then(f i).c else dN f u (i+1) m
theorem uR {f:Nat→T} {m:M}:∀(u i:Nat),(∀j,i≤j→j<i+u→(f j).m≠m)→dN f u i m=0
 |0,_,_=>rfl
 |u+1,i,h=>by rw[dN,if_neg (fun e=>h i (Nat.le_refl _) (by omega) (cM.1 e))];exact uR u (i+1) (fun j h1 h2=>h j (by omega) (by omega))
def Fl (f:Nat→T) (n:Nat):Prop:=(∀j i,j<i→i<n→fF (f i).m<fF (f j).m)∧∀i,i<n→(f i).m.ok=true∧1≤(f i).c∧(f i).c≤100
theorem Fl.high {f:Nat→T} {n i:Nat} {m:M} (h:Fl f n) (hi:i<n→fF (f i).m<fF m):dN f (n-i) i m=0:=by
 refine uR _ _ (fun j h1 h2 e=>?_);have hin:i<n:=by omega
 have h3:=hi hin;by_cases hji:j=i
 ·rw[hji]at e;rw[e]at h3;omega
 ·have:=h.1 i j (by omega) (by omega);rw[e]at this;omega
theorem qS {f:Nat→T} {n i:Nat} (m:M) (hi:i<n):dN f (n-i) i m=if eF (f i).m m=true then(f i).c else dN f (n-(i+1)) (i+1) m:=by rw[show n-i=(n-(i+1))+1 by omega,dN]
theorem uQ {t:T} {r:List T} (h:aK r) (h1:∀s∈r,fF s.m<fF t.m) (h2:t.m.ok=true∧1≤t.c∧t.c≤100):aK (t::r):=
 ⟨List.pairwise_cons.2 ⟨h1,h.1⟩,fun s hs=>by rcases List.mem_cons.1 hs with rfl|hs;exact h2;exact h.2 s hs⟩
theorem nN {f:Nat→T} {la:Nat} {g:Nat→T} {lb:Nat} (F:Fl f la) (G:Fl g lb):∀(u i k:Nat),la-i+(lb-k)≤u→(∀t∈jC f la g lb u i k,(∃j,i≤j∧j<la∧t.m=(f j).m)∨(∃j,k≤j∧j<lb∧t.m=(g j).m))∧aK (jC f la g lb u i k)∧∀m,aM (jC f la g lb u i k) m=(dN f (la-i) i m+dN g (lb-k) k m)%101
 |0,i,k,hu=>by refine⟨fun t ht=>by simp[jC]at ht,⟨List.Pairwise.nil,fun t ht=>by simp[jC]at ht⟩,fun m=>?_⟩;rw[show la-i=0 by omega,show lb-k=0 by omega];rfl
 |u+1,i,k,hu=>by
  have up:∀(n i:Nat),n-i=0→∀m,dN f (n-i) i m=0:=fun n i h m=>by rw[h];rfl
  have low:∀{t:T} {i' k':Nat} {r:Int},((∃j,i'≤j∧j<la∧t.m=(f j).m)∨(∃j,k'≤j∧j<lb∧t.m=(g j).m))→(i'<la→fF (f i').m<r)→(k'<lb→fF (g k').m<r)→fF t.m<r:=by
   intro t i' k' r h h1 h2;rcases h with⟨j,a1,a2,a3⟩|⟨j,a1,a2,a3⟩
   ·rw[a3];by_cases hj:j=i'
    ·rw[hj];exact h1 (by omega)
    ·have:=F.1 i' j (by omega) a2;have:=h1 (by omega);omega
   ·rw[a3];by_cases hj:j=k'
    ·rw[hj];exact h2 (by omega)
    ·have:=G.1 k' j (by omega) a2;have:=h2 (by omega);omega
  have fi:i<la→(k<lb→fF (g k).m<fF (f i).m)→(∀t∈f i::jC f la g lb u (i+1) k,(∃j,i≤j∧j<la∧t.m=(f j).m)∨(∃j,k≤j∧j<lb∧t.m=(g j).m))∧aK (f i::jC f la g lb u (i+1) k)∧∀m,aM (f i::jC f la g lb u (i+1) k) m=(dN f (la-i) i m+dN g (lb-k) k m)%101:=by
   intro hi hk;obtain⟨p1,p2,p3⟩:=nN F G u (i+1) k (by omega);refine⟨fun t ht=>?_,uQ p2 (fun s hs=>low (p1 s hs) (fun h=>F.1 i (i+1) (by omega) h) hk) (F.2 i hi),fun m=>?_⟩
   ·rcases List.mem_cons.1 ht with rfl|ht
    ·exact .inl ⟨i,Nat.le_refl _,hi,rfl⟩
    ·exact(p1 t ht).imp (fun⟨j,a1,a2,a3⟩=>⟨j,by omega,a2,a3⟩) id
   ·rw[qS m hi];by_cases hm:eF (f i).m m=true
    ·have:=cM.1 hm;subst this;have h0:=F.2 i hi
     rw[bO,if_pos hm,G.high hk,Int.add_zero];omega
    ·rw[aM,if_neg hm,if_neg hm];exact p3 m
  have gk:k<lb→(i<la→fF (f i).m<fF (g k).m)→(∀t∈g k::jC f la g lb u i (k+1),(∃j,i≤j∧j<la∧t.m=(f j).m)∨(∃j,k≤j∧j<lb∧t.m=(g j).m))∧aK (g k::jC f la g lb u i (k+1))∧∀m,aM (g k::jC f la g lb u i (k+1)) m=(dN f (la-i) i m+dN g (lb-k) k m)%101:=by
   intro hk hi;obtain⟨p1,p2,p3⟩:=nN F G u i (k+1) (by omega);refine⟨fun t ht=>?_,uQ p2 (fun s hs=>low (p1 s hs) hi (fun h=>G.1 k (k+1) (by omega) h)) (G.2 k hk),fun m=>?_⟩
   ·rcases List.mem_cons.1 ht with rfl|ht
    ·exact .inr ⟨k,Nat.le_refl _,hk,rfl⟩
    ·exact(p1 t ht).imp id (fun⟨j,a1,a2,a3⟩=>⟨j,by omega,a2,a3⟩)
   ·rw[qS (f:=g) m hk];by_cases hm:eF (g k).m m=true
    ·have:=cM.1 hm;subst this;have h0:=G.2 k hk
     rw[bO,if_pos hm,F.high hi,Int.zero_add];omega
    ·rw[aM,if_neg hm,if_neg hm];exact p3 m
  simp only[jC];by_cases hik:i<la∧k<lb
  ·rw[if_pos hik];have hrk:=yS (F.2 i hik.1).1 (G.2 k hik.2).1
   by_cases h1:0<M.ord 1 (f i).m (g k).m
   ·rw[if_pos h1];exact fi hik.1 (fun _=>(wU (F.2 i hik.1).1 (G.2 k hik.2).1).1 h1)
   ·rw[if_neg h1];by_cases h2:M.ord 1 (f i).m (g k).m<0
    ·rw[if_pos h2];refine gk hik.2 (fun _=>?_);rw[←hrk]at h2;unfold c3 at h2;split at h2
     ·assumption
     ·split at h2<;>omega
    ·rw[if_neg h2];have heq:fF (f i).m=fF (g k).m:=by
      have h3:M.ord 1 (f i).m (g k).m=0:=by omega
      rw[←hrk]at h3;unfold c3 at h3;split at h3
      ·omega
      ·split at h3<;>omega
     have hmm:=KN (F.2 i hik.1).1 (G.2 k hik.2).1 heq;obtain⟨p1,p2,p3⟩:=nN F G u (i+1) (k+1) (by omega);have hsum:∀m,(dN f (la-i) i m+dN g (lb-k) k m)%101=if eF (f i).m m=true then((f i).c+(g k).c)%101 else(dN f (la-(i+1)) (i+1) m+dN g (lb-(k+1)) (k+1) m)%101:=fun m=>by rw[qS m hik.1,qS (f:=g) m hik.2,←hmm];split<;>rfl
     have hhi:aM (jC f la g lb u (i+1) (k+1)) (f i).m=0:=by rw[p3,F.high (fun h=>F.1 i (i+1) (by omega) h),G.high (fun h=>by rw[hmm];exact G.1 k (k+1) (by omega) h)];rfl
     have q1:∀t∈jC f la g lb u (i+1) (k+1),(∃j,i≤j∧j<la∧t.m=(f j).m)∨(∃j,k≤j∧j<lb∧t.m=(g j).m):=fun t ht=>(p1 t ht).imp (fun⟨j,a1,a2,a3⟩=>⟨j,by omega,a2,a3⟩) (fun⟨j,a1,a2,a3⟩=>⟨j,by omega,a2,a3⟩);by_cases hz:((f i).c+(g k).c)%101≠0
     ·rw[if_pos hz];refine⟨fun t ht=>?_,uQ p2 (fun s hs=>low (p1 s hs) (fun h=>F.1 i (i+1) (by omega) h) (fun h=>by rw[hmm];exact G.1 k (k+1) (by omega) h)) ⟨(F.2 i hik.1).1,by dsimp only;omega,by dsimp only;omega⟩,fun m=>?_⟩
      ·rcases List.mem_cons.1 ht with rfl|ht
       ·exact .inl ⟨i,Nat.le_refl _,hik.1,rfl⟩
       ·exact q1 t ht
      ·rw[hsum m,aM];by_cases hm:eF (f i).m m=true
       ·rw[if_pos hm,if_pos hm]
       ·rw[if_neg hm,if_neg hm];exact p3 m
     ·rw[if_neg hz];refine⟨q1,p2,fun m=>?_⟩;rw[hsum m];by_cases hm:eF (f i).m m=true
      ·have:=cM.1 hm;subst this;rw[if_pos hm,hhi];omega
      ·rw[if_neg hm];exact p3 m
  ·rw[if_neg hik];by_cases hi:i<la
   ·rw[if_pos hi];exact fi hi (fun h=>absurd ⟨hi,h⟩ hik)
   ·rw[if_neg hi];by_cases hk:k<lb
    ·rw[if_pos hk];exact gk hk (fun h=>absurd h hi)
    ·rw[if_neg hk];refine⟨fun t ht=>(by cases ht),⟨List.Pairwise.nil,fun t ht=>(by cases ht)⟩,fun m=>?_⟩;rw[show la-i=0 by omega,show lb-k=0 by omega];rfl
theorem fR {n:Nat} {f:Nat→T} (h:aN n f=true):Fl f n:=by
 have hp:=h;simp only[aN,decide_eq_true_eq]at hp;have h1:∀i,i<n→(f i).m.ok=true∧1≤(f i).c∧(f i).c≤100:=fun i hi=>by have:=hp.2 i hi;simp only[mH,Bool.and_eq_true,decide_eq_true_eq]at this;exact⟨this.1.2,this.1.1⟩
 refine⟨fun j i hji hi=>?_,h1⟩;induction i with
 |zero=>omega
 |succ i ih=>
  have h2:=hp.2 (i+1) hi;simp only[mH,Bool.and_eq_true,Bool.or_eq_true,decide_eq_true_eq]at h2;have h3:=h2.2.resolve_left (by omega)
  rw[show i+1-1=i by omega]at h3;have h4:=(wU (h1 i (by omega)).1 (h1 (i+1) hi).1).1 h3
  by_cases hji2:j=i
  ·rw[hji2];exact h4
  ·have:=ih (by omega) (by omega);omega
def iJ (l:Array Bool):Nat:=(l.toList.filter (fun b=>b==false)).length
theorem zU:∀(l:List Bool) (i:Nat),l[i]? =some false→((l.set i true).filter (fun b=>b==false)).length+1=(l.filter (fun b=>b==false)).length
 |[],i,h=>by simp at h
 |b::r,0,h=>by simp at h;subst h;simp
 |b::r,i+1,h=>by have ih:=zU r i (by simpa using h);cases b<;>simp at ih⊢<;>omega
theorem iK {l:Array Bool} {i:Nat} (h:l[i]? =some false):iJ (l.setIfInBounds i true)+1=iJ l:=by unfold iJ;rw[Array.toList_setIfInBounds];exact zU _ _ (by simpa using h)
theorem lP:∀(l:List Bool),(l.filter (fun b=>b==false)).length=0→∀i:Nat,l[i]? ≠some false
 |[],_,i,h=>by simp at h
 |b::r,hl,0,h=>by simp at h;subst h;simp at hl
 |b::r,hl,i+1,h=>by refine lP r ?_ i (by simpa using h);cases b<;>simp at hl⊢;exact hl
theorem bR {l:Array Bool} {i:Nat} (h:l.getD i true=false):l[i]? =some false:=by
 rw[Array.getD_eq_getD_getElem?]at h;cases hx:l[i]? with
 |none=>rw[hx]at h;simp at h
 |some b=>rw[hx]at h;simp at h;rw[h]
theorem zD {P:Program} {md:Region.Mode} {ops:Array Oper} {Q:Exit→Act→World→Prop} {I:Array Bool→Act→World→Prop} (hs:∀l a w,I l a w→∀i∈Region.ready md ops l,wpOp P ops Q i (I (l.setIfInBounds i true)) a w) (he:∀l a w,I l a w→Region.ready md ops l=[]→Q .normal a w):∀(fuel:Nat) (l:Array Bool) (a:Act) (w:World),iJ l≤fuel→I l a w→wpAny P md ops Q fuel l a w
 |0,l,a,w,hf,hI=>by
  have hr:Region.ready md ops l=[]:=by
   rw[List.eq_nil_iff_forall_not_mem];intro i hi;have h0:=bR (mem_ready.1 hi).1
   exact lP l.toList (by unfold iJ at hf;omega) i (by simpa using h0)
  exact⟨hr,he l a w hI hr⟩
 |fuel+1,l,a,w,hf,hI=>by
  refine⟨fun hr=>he l a w hI hr,fun i hi=>?_⟩;have h0:=bR (mem_ready.1 hi).1
  have h1:=iK h0;exact wpOp_mono (fun a' w' h=>zD hs he fuel _ a' w' (by omega) h) (hs l a w hI i hi)
theorem eZ (n:Nat):iJ (Array.replicate n false)=n:=by unfold iJ;simp
def Sl (w:World) (N m:Nat) (v:Value):Prop:=∃b,v= .slice (some ⟨b,0,none⟩) m m∧N≤b∧∀i,i<m→∃x,w.cell? ⟨b,i,none⟩=some (.int .i64 x)
def Pk (m:Nat) (v:Value):Prop:=∃q:Nat,q<m∧v= .int .i64 (q:Int)
def Ix (w:World) (N:Nat) (v:Value):Prop:=∃b i x,v= .pointer (some ⟨b,i,none⟩)∧N≤b∧w.cell? ⟨b,i,none⟩=some (.int .i64 x)
def Ld (v:Value):Prop:=∃x,v= .int .i64 x
def Ag (v:Value):Prop:=∃x y d e,v= .agg #[.int .i64 x,.int .i64 y,.int .i64 d,.int .i64 e]
theorem eS {w:World} {b o b' o':Nat} {v:Value} (h:b'≠b):(w.setCell ⟨b,o,none⟩ v).cell? ⟨b',o',none⟩=w.cell? ⟨b',o',none⟩:=
 mB (w:=w) (Below.heap_setCell _ _ _ _ h)
theorem M4.ext {w:World} {b:Nat} {x y d e:Int} (h:M4 w b x y d e):(∀u:bJ w,u.1.cell? ⟨b,0,none⟩=some (.int .i64 x))∧(∀u:bJ w,u.1.cell? ⟨b,1,none⟩=some (.int .i64 y))∧(∀u:bJ w,u.1.cell? ⟨b,2,none⟩=some (.int .i64 d))∧(∀u:bJ w,u.1.cell? ⟨b,3,none⟩=some (.int .i64 e)):=
 ⟨fun u=>(u.cell h.lt).trans h.1,fun u=>(u.cell h.lt).trans h.2.1,fun u=>(u.cell h.lt).trans h.2.2.1,fun u=>(u.cell h.lt).trans h.2.2.2⟩
theorem zT {x y d e x' y' d' e':Int} {m:M} {b:Bool} (h:M.over ⟨x,y,d,e⟩ ⟨x',y',d',e'⟩=(m,b)) (w:World):Calls Tryz.prog 166 #[.agg #[.int .i64 x,.int .i64 y,.int .i64 d,.int .i64 e],.agg #[.int .i64 x',.int .i64 y',.int .i64 d',.int .i64 e']] w fun r w'=>r= .returned (.tuple #[.agg #[.int .i64 m.x,.int .i64 m.y,.int .i64 m.d,.int .i64 m.e],.bool b])∧Below w.heap.size w w':=by have:=Ds x y d e x' y' d' e' w;rw[h]at this;exact this
theorem NT {x y d e x' y' d' e':Int} {m:M} {b:Bool} (h:M.over ⟨x,y,d,e⟩ ⟨x',y',d',e'⟩=(m,b)) (w:World):Calls Tryz.prog 129 #[.agg #[.int .i64 x,.int .i64 y,.int .i64 d,.int .i64 e],.agg #[.int .i64 x',.int .i64 y',.int .i64 d',.int .i64 e']] w fun r w'=>r= .returned (.tuple #[.agg #[.int .i64 m.x,.int .i64 m.y,.int .i64 m.d,.int .i64 m.e],.bool b])∧Below w.heap.size w w':=by have:=Dt x y d e x' y' d' e' w;rw[h]at this;exact this
open Go.RowKit Go.Deep Go.Joins
abbrev L5 (b o B:Nat) (v:Value) (m:M) (u:World):Prop:=u.cell? ⟨b,o,none⟩=some v∧u.cell? ⟨B,0,none⟩=some (.int .i64 m.x)∧u.cell? ⟨B,1,none⟩=some (.int .i64 m.y)∧u.cell? ⟨B,2,none⟩=some (.int .i64 m.d)∧u.cell? ⟨B,3,none⟩=some (.int .i64 m.e)
theorem L5.below {b o B:Nat} {v:Value} {m:M} {u u':World} (h:L5 b o B v m u) (hb:Below u.heap.size u u'):L5 b o B v m u':=
 have l1:=cX u ⟨b,o,none⟩ h.1;have l2:=cX u ⟨B,0,none⟩ h.2.1
 ⟨(hb.cell (p:=⟨b,o,none⟩) l1).trans h.1,(hb.cell (p:=⟨B,0,none⟩) l2).trans h.2.1,(hb.cell (p:=⟨B,1,none⟩) l2).trans h.2.2.1,(hb.cell (p:=⟨B,2,none⟩) l2).trans h.2.2.2.1,(hb.cell (p:=⟨B,3,none⟩) l2).trans h.2.2.2.2⟩
def kC (o:Int) (ln:Nat→Nat) (f:Nat→Nat→T) (i:Nat):T:=f i (bD o (f i) (ln i))
def iQ (l:T) (b:M):T:=⟨kN l.c,(M.over b l.m).1⟩
abbrev L6 (A B C:Nat) (x y:Int) (m:M) (u:World):Prop:=u.cell? ⟨A,0,none⟩=some (.int .i64 x)∧u.cell? ⟨B,0,none⟩=some (.int .i64 y)∧u.cell? ⟨C,0,none⟩=some (.int .i64 m.x)∧u.cell? ⟨C,1,none⟩=some (.int .i64 m.y)∧u.cell? ⟨C,2,none⟩=some (.int .i64 m.d)∧u.cell? ⟨C,3,none⟩=some (.int .i64 m.e)
theorem ZW {A B C D:Nat} {x y:Int} {m:M} {u:World} {v0 v1 v2 v3 v4:Value} (h:L6 A B C x y m u) (h1:A≠D) (h2:B≠D) (h3:C≠D):L6 A B C x y m (((((u.setCell ⟨D,0,none⟩ v0).setCell ⟨D,1,none⟩ v1).setCell ⟨D,2,none⟩ v2).setCell ⟨D,3,none⟩ v3).setCell ⟨D,4,none⟩ v4).drew:=
 have key:∀v:World,L6 A B C x y m v→L6 A B C x y m v.drew:=fun v h=>h
 key _ ⟨(tV h1).trans h.1,(tV h2).trans h.2.1,(tV h3).trans h.2.2.1,(tV h3).trans h.2.2.2.1,(tV h3).trans h.2.2.2.2.1,(tV h3).trans h.2.2.2.2.2⟩
def gI (t l:T):T:=⟨t.c*kN l.c%101,(M.over t.m l.m).1⟩
theorem JO (w:World) (o:Int) (t:T) (b:Option Addr) (m cb:Nat) (g:Nat→T) (hb:Rd w b m cb g) (hm:0<m) (hg:∀i,i<m→(g i).m.ok=true) (t1:0≤t.c) (t2:t.c≤100):Calls Tryz.prog 86 #[.int .i64 o,.agg #[.int .i64 t.c,.int .i64 t.m.x,.int .i64 t.m.y,.int .i64 t.m.d,.int .i64 t.m.e],.slice b m cb] w fun r w'=>r= .returned (.agg #[.int .i64 (gI t (g (bD o g m))).c,.int .i64 (gI t (g (bD o g m))).m.x,.int .i64 (gI t (g (bD o g m))).m.y,.int .i64 (gI t (g (bD o g m))).m.d,.int .i64 (gI t (g (bD o g m))).m.e])∧Below w.heap.size w w':=by
 have hmb:(m:Int)≤140737488351232:=by have:=hb.2.1;omega
 have HG:=aA hb;have HM:=aA hg
 have HB0:=aA (aR w (.cells #[.int .i64 t.c,.int .i64 t.m.x,.int .i64 t.m.y,.int .i64 t.m.d,.int .i64 t.m.e] 42) (.cells #[.int .i64 0,.int .i64 0,.int .i64 0,.int .i64 0,.int .i64 0] 42));have c1:=fun(W:World) (h:Rd W b m cb g)=>qV W o b m cb g h hm HM.out
 clear hb hg;generalize g (bD o g m)=l at *;obtain⟨q,bv,hq⟩:∃q bv,M.over ⟨t.m.x,t.m.y,t.m.d,t.m.e⟩ ⟨l.m.x,l.m.y,l.m.d,l.m.e⟩=(q,bv):=⟨_,_,rfl⟩
 have e1:gI t l=⟨t.c*kN l.c%101,q⟩:=by unfold gI;rw[show M.over t.m l.m=(q,bv)from hq]
 rw[e1];clear e1;obtain⟨f1,f2⟩:=oQ l.c;obtain⟨y,hy⟩:∃y,kN l.c=y:=⟨_,rfl⟩
 have c3:=fun W=>Nk l.c W;rw[hy]at f1 f2 c3⊢;clear hy;have p1:0≤t.c*y:=Int.mul_nonneg t1 f1
 have p2:t.c*y≤10000:=by have h1:t.c*y≤100*y:=Int.mul_le_mul_of_nonneg_right t2 f1;omega
 have p3:IntKind.i64.wrap (t.c*y)=t.c*y:=by rw[IntKind.wrap_i64];omega
 have p4:(t.c*y).tmod 101=t.c*y%101:=Int.tmod_eq_emod_of_nonneg p1;go_enter Tryz.func86,Tryz.ntmps86;go_wp2_with fail;refine(c1 _ (HG.out.below HB0.out)).mono ?_;rintro r w1 ⟨rfl,hb1⟩;have HB1:=aA (aB HB0.out hb1)
 have oA:=((C5.box w 42 t).below (aC (w.alloc (.cells #[.int .i64 t.c,.int .i64 t.m.x,.int .i64 t.m.y,.int .i64 t.m.d,.int .i64 t.m.e] 42)) (.cells #[.int .i64 0,.int .i64 0,.int .i64 0,.int .i64 0,.int .i64 0] 42))).below hb1;have oB:=(cJ.box (w.alloc (.cells #[.int .i64 t.c,.int .i64 t.m.x,.int .i64 t.m.y,.int .i64 t.m.d,.int .i64 t.m.e] 42)) 42 cB).below hb1
 rw[World.size_alloc]at oB;have hz1:w.heap.size+1<w1.heap.size:=by have:=hb1.size;simp at this;omega
 have OA:=aA oA;have OB:=aA oB
 have HB2:=aA (HB1.out.alloc HB1.out.size (.cells #[.int .i64 l.c,.int .i64 l.m.x,.int .i64 l.m.y,.int .i64 l.m.d,.int .i64 l.m.e] 42));obtain⟨r0,r1,r2,r3,r4⟩:=oA;clear hb1 c1 oB;have hz0:w.heap.size<w1.heap.size:=by omega
 go_wp2_with fail;clear r0 r1 r2 r3 r4;refine(NT hq _).mono ?_;rintro r w2 ⟨rfl,hb2⟩;have HB3:=aA (aB HB2.out hb2)
 have oA2:=(OA.out.below (aC w1 (.cells #[.int .i64 l.c,.int .i64 l.m.x,.int .i64 l.m.y,.int .i64 l.m.d,.int .i64 l.m.e] 42))).below hb2;obtain⟨⟨e0,e1,e2,e3,e4⟩,ez⟩:=(OB.out.below (aC w1 (.cells #[.int .i64 l.c,.int .i64 l.m.x,.int .i64 l.m.y,.int .i64 l.m.d,.int .i64 l.m.e] 42))).below hb2;have oL:=(C5.box w1 42 l).below hb2
 have hz2:w1.heap.size<w2.heap.size:=by have:=hb2.size;simp at this;omega
 have hz3:w.heap.size+1<w2.heap.size:=by omega
 have hz4:w.heap.size<w2.heap.size:=by omega
 have k0:w2.cell? ⟨w.heap.size,0,none⟩=some (.int .i64 t.c):=oA2.1;have k1:w2.cell? ⟨w1.heap.size,0,none⟩=some (.int .i64 l.c):=oL.1
 have HB4:=aA (HB3.out.alloc HB3.out.size (.cells #[.int .i64 q.x,.int .i64 q.y,.int .i64 q.d,.int .i64 q.e] 40));have hS:L6 w.heap.size w1.heap.size w2.heap.size t.c l.c q (w2.alloc (.cells #[.int .i64 q.x,.int .i64 q.y,.int .i64 q.d,.int .i64 q.e] 40)):=by have h4:=M4.box w2 40 q.x q.y q.d q.e;exact⟨(LN _ _ _ hz4).trans k0,(LN _ _ _ hz2).trans k1,h4.1,h4.2.1,h4.2.2.1,h4.2.2.2⟩
 have s0:=(LN w2 (.cells #[.int .i64 q.x,.int .i64 q.y,.int .i64 q.d,.int .i64 q.e] 40) ⟨w.heap.size+1,0,none⟩ hz3).trans e0;have s1:=(LN w2 (.cells #[.int .i64 q.x,.int .i64 q.y,.int .i64 q.d,.int .i64 q.e] 40) ⟨w.heap.size+1,1,none⟩ hz3).trans e1
 have s2:=(LN w2 (.cells #[.int .i64 q.x,.int .i64 q.y,.int .i64 q.d,.int .i64 q.e] 40) ⟨w.heap.size+1,2,none⟩ hz3).trans e2;have s3:=(LN w2 (.cells #[.int .i64 q.x,.int .i64 q.y,.int .i64 q.d,.int .i64 q.e] 40) ⟨w.heap.size+1,3,none⟩ hz3).trans e3
 have s4:=(LN w2 (.cells #[.int .i64 q.x,.int .i64 q.y,.int .i64 q.d,.int .i64 q.e] 40) ⟨w.heap.size+1,4,none⟩ hz3).trans e4;have sz:=fun i=>((aC w2 (.cells #[.int .i64 q.x,.int .i64 q.y,.int .i64 q.d,.int .i64 q.e] 40)).frozen (p:=⟨w.heap.size+1,i,none⟩) hz3).trans (ez i)
 clear hb2 oA2 oL OA OB hq;go_wp2_with fail;clear e0 e1 e2 e3 e4 ez;generalize(w2.alloc (.cells #[.int .i64 q.x,.int .i64 q.y,.int .i64 q.d,.int .i64 q.e] 40))=W at *;have hSd:L6 w.heap.size w1.heap.size w2.heap.size t.c l.c q W.drew:=hS
 have hn1:w.heap.size≠w.heap.size+1:=by omega
 have hn2:w1.heap.size≠w.heap.size+1:=by omega
 have hn3:w2.heap.size≠w.heap.size+1:=by omega
 go_region_held3 (fun u=>u.cell? ⟨w.heap.size,0,none⟩=some (.int .i64 t.c)∧u.cell? ⟨w1.heap.size,0,none⟩=some (.int .i64 l.c)∧u.cell? ⟨w2.heap.size,0,none⟩=some (.int .i64 q.x)∧u.cell? ⟨w2.heap.size,1,none⟩=some (.int .i64 q.y)∧u.cell? ⟨w2.heap.size,2,none⟩=some (.int .i64 q.d)∧u.cell? ⟨w2.heap.size,3,none⟩=some (.int .i64 q.e)) (first|with_reducible exact hSd|with_reducible exact ZW hS hn1 hn2 hn3) (first|(go_at_call 89;refine(c3 _).mono ?_;rintro r w7 ⟨rfl,hw7⟩;obtain rfl:=hw7.symm;clear hw7))
 go_wp2;refine bY (v:=.agg #[.int .i64 (t.c*y%101),.int .i64 q.x,.int .i64 q.y,.int .i64 q.d,.int .i64 q.e]) (by simp[results,Tryz.results86,go_sem, *]) rfl ⟨rfl,?_⟩;exact(cE HB4.out (by omega) _ _ _ _ _).drew
theorem sH {o:Int} {f:Nat→T}:∀u i k n,k<n→i+u≤n→bB o f u i k<n
 |0,_,_,_,h,_=>h
 |u+1,i,k,n,h,h2=>by
  unfold bB;split
  ·exact sH u (i+1) i n (by omega) (by omega)
  ·exact sH u (i+1) k n h (by omega)
theorem tD {o:Int} {f:Nat→T} {n:Nat} (h:0<n):bD o f n<n:=sH (n-1) 1 0 n h (by omega)
theorem wE {c:Int} (h1:1≤c) (h2:c≤100):1≤kN c:=by
 have hb:=oQ c;rcases Int.lt_or_le 0 (kN c)with h|h
 ·omega
 ·have h0:kN c=0:=by omega
  have:=wF (b:=c) ⟨by omega,h2⟩ (by omega);rw[h0,jW (by omega) (by omega) (by omega) h2]at this;omega
theorem yU {l:T} {b:M} (h:l.m.ok=true∧1≤l.c∧l.c≤100) (hd:l.m.dvd b=true):(iQ l b).m.ok=true∧1≤(iQ l b).c∧(iQ l b).c≤100:=by
 refine⟨?_,wE h.2.1 h.2.2,(oQ _).2⟩;show((M.over b l.m).1).ok=true
 rw[M.over,if_pos hd];obtain⟨h1,h2,h3⟩:=jJ hd;have k1:=M.ok_iff.1 h1
 have k2:=M.ok_iff.1 h2;refine M.ok_iff.2 ?_;simp only[M.diff];omega
theorem EJ {l b:M} (hd:l.dvd b=true):M.mul (M.over b l).1 l=(b,true):=by
 rw[M.over,if_pos hd];obtain⟨h1,h2,h3⟩:=jJ hd;have k1:=M.ok_iff.1 h1
 have k2:=M.ok_iff.1 h2;have hok:(b.diff l).ok=true:=by refine M.ok_iff.2 ?_;simp only[M.diff];omega
 have hs:(b.diff l).sum l=b:=by cases b;cases l;simp only[M.diff,M.sum,M.mk.injEq];omega
 unfold M.mul;rw[hs,if_pos ⟨hok,h1,h2⟩]
end Go.Proofs.YtdidlcjhodejjaaGreat
namespace Go.Proofs.YtdidlcjhodejjaaGreat
open Go.RowKit
set_option linter.unusedVariables false
def mJ (c:Int) (m:M) (L:List T):List T:=if c=0 then L else iM (lf L) L.length (fun _=>⟨c,m⟩) 1 0 0
def ZU (L:List T):Prop:=∀t∈L,0≤t.c∧t.c≤100
theorem lK {L:List T} {i:Nat} (h:i<L.length):lf L i∈L:=by unfold lf;rw[List.getD_eq_getElem?_getD,List.getElem?_eq_getElem h];exact List.getElem_mem h
theorem ZU.at {L:List T} (h:ZU L):∀i,i<L.length→0≤(lf L i).c∧(lf L i).c≤100:=fun i hi=>h _ (lK hi)
theorem xD (c:Int) (m:M) (L:List T):(mJ c m L).length≤L.length+1:=by
 unfold mJ;split
 ·omega
 ·have:=BH (lf L) L.length (fun _=>⟨c,m⟩) 1 0 0;omega
theorem Fa (w:World) (t:T):Rd (w.alloc (.cells #[.int .i64 t.c,.int .i64 t.m.x,.int .i64 t.m.y,.int .i64 t.m.d,.int .i64 t.m.e] 42)) (some ⟨w.heap.size,0,none⟩) 1 1 (fun _=>t):=by
 refine⟨Nat.le_refl _,by omega,.inr ⟨w.heap.size,0,rfl,by simp,fun i hi=>?_⟩⟩;obtain rfl:i=0:=by omega
 exact⟨by rw[World.cell?_alloc_at _ _ _ _ rfl];rfl,by rw[World.cell?_alloc_at _ _ _ _ rfl];rfl,by rw[World.cell?_alloc_at _ _ _ _ rfl];rfl,by rw[World.cell?_alloc_at _ _ _ _ rfl];rfl,by rw[World.cell?_alloc_at _ _ _ _ rfl];rfl⟩
theorem JM (w:World) (lo:Nat) (v:Value) (L:List T) (c x y d e:Int) (ho:w.ownsRow lo 42 5 v L.length (aE L)) (hlo:lo≤w.heap.size) (hl:L.length≤1000) (hL:ZU L) (h0:0≤c) (h1:c≤100):Calls Tryz.prog 143 #[v,.int .i64 c,.agg #[.int .i64 x,.int .i64 y,.int .i64 d,.int .i64 e]] w fun r w'=>∃v',r= .returned v'∧Below w.heap.size w w'∧w'.ownsRow lo 42 5 v' (mJ c ⟨x,y,d,e⟩ L).length (aE (mJ c ⟨x,y,d,e⟩ L)):=by
 by_cases hc:c=0
 ·subst hc;have e1:mJ 0 ⟨x,y,d,e⟩ L=L:=by simp[mJ]
  rw[e1];have HO:=aA (dC ho (aC w (.cells #[.int .i64 x,.int .i64 y,.int .i64 d,.int .i64 e] 40)))
  clear ho e1;go_enter Tryz.func143,Tryz.ntmps143;go_wp2;go_ret;exact⟨_,rfl,aC w _,HO.out⟩
 ·have hcb:(c==0)=false:=by simp[hc]
  have e1:mJ c ⟨x,y,d,e⟩ L=iM (lf L) L.length (fun _=>⟨c,⟨x,y,d,e⟩⟩) 1 0 0:=by simp[mJ,hc]
  rw[e1];obtain⟨a,cap,rfl,hout⟩:=aH ho (by omega);have HR:=aA hout.1
  clear ho hout hc e1;go_enter Tryz.func143,Tryz.ntmps143;go_wp2_with fail;have ha:=aA ((HR.out.below (aC w (.cells #[.int .i64 x,.int .i64 y,.int .i64 d,.int .i64 e] 40))).below (aC _ (.cells #[.int .i64 c,.int .i64 x,.int .i64 y,.int .i64 d,.int .i64 e] 42)))
  have hb:=Fa (w.alloc (.cells #[.int .i64 x,.int .i64 y,.int .i64 d,.int .i64 e] 40)) ⟨c,⟨x,y,d,e⟩⟩;have hb2:Rd ((w.alloc (.cells #[.int .i64 x,.int .i64 y,.int .i64 d,.int .i64 e] 40)).alloc (.cells #[.int .i64 c,.int .i64 x,.int .i64 y,.int .i64 d,.int .i64 e] 42)) (some ⟨w.heap.size+1,0,none⟩) 1 1 (fun _=>⟨c,⟨x,y,d,e⟩⟩):=by simpa using hb
  have hz:=aA (aB (aC w (.cells #[.int .i64 x,.int .i64 y,.int .i64 d,.int .i64 e] 40)) (aC _ (.cells #[.int .i64 c,.int .i64 x,.int .i64 y,.int .i64 d,.int .i64 e] 42)));clear hb;generalize((w.alloc (.cells #[.int .i64 x,.int .i64 y,.int .i64 d,.int .i64 e] 40)).alloc (.cells #[.int .i64 c,.int .i64 x,.int .i64 y,.int .i64 d,.int .i64 e] 42))=W at ha hb2 hz⊢;refine(sG _ _ _ _ _ _ _ (lf L) (fun _=>⟨c,⟨x,y,d,e⟩⟩) ha.out hb2 (by omega) hL.at (fun _ _=>⟨h0,h1⟩)).mono ?_;rintro r w1 ⟨v',rfl,hb1,hown⟩;have HB:=aA (aB hz.out hb1)
  have HO:=aA (DE hown (jZ hlo hz.out.size));clear hb2 hb1 hown ha hz HR;go_wp2;go_ret;exact⟨_,rfl,HB.out,HO.out⟩
open Go.RowKit Go.Maps
theorem Ct:laidOutB Tryz.prog=true:=by kernel_rfl
theorem nA:Keyed Tryz.prog 40:=Keyed.of_law (deep_law_laid Ct (m:=2) (by omega) (of_decide_eq_true (by kernel_rfl)) (by kernel_rfl) (by kernel_rfl))
theorem Kv {n:Int} (h0:0≤n) (h1:n≤15):(Lit.int .i64 n).wf=true:=WalkArith.wf_i64 (by omega)
def eI (m:M):Lit:=.string (keyBytes [.int .i64 m.x,.int .i64 m.y,.int .i64 m.d,.int .i64 m.e])
theorem pH {m:M} (h:m.ok=true):keyOf Tryz.prog 40 (.agg #[.int .i64 m.x,.int .i64 m.y,.int .i64 m.d,.int .i64 m.e])=some (eI m):=by
 obtain⟨x1,x2,y1,y2,d1,d2,e1,e2⟩:=M.ok_iff.1 h;have w1:=Kv x1 x2
 have w2:=Kv y1 y2;have w3:=Kv d1 d2
 have w4:=Kv e1 e2;have hk:Tryz.prog.keyType 40=true:=by kernel_rfl
 have hc:Tryz.prog.cellsOf 40=4:=by kernel_rfl
 have h1:Tryz.prog.cellsOf 3=1:=by kernel_rfl
 obtain⟨D,hD⟩:∃D,Tryz.prog.types.size+1=D+1+1:=⟨Tryz.prog.types.size-1,by have:0<Tryz.prog.types.size:=of_decide_eq_true (by kernel_rfl);omega⟩
 unfold keyOf;simp only[Tryz.underlying40,hk,hD,Value.formed,hc];simp[Program.keyLits,Tryz.underlying40,hc,h1,w1,w2,w3,w4,Value.cells,eI]
theorem Gt (w:World):(zeroValue 138).run Tryz.prog w= .ok (.int .i64 0) w:=by kernel_rfl
theorem Rz {n:Int} (h0:0≤n) (h1:n≤100):(Lit.int .i64 n).wf=true:=WalkArith.wf_i64 (by omega)
theorem wY {w:World} {P:Program} {k:TypeId} {R:Value→Option (DataW Unit×List MemPlace)} {b n n':Nat} {D:DataW Unit} (h:w.ownsMap P k R b n D) (hn:n≤n'):w.ownsMap P k R b n' D:=by obtain⟨es,clock,h1,h2,h3,h4⟩:=h;exact⟨es,clock,h1,h2,jZ h3 hn,h4⟩
def LZ (D:DataW Unit) (m:M) (v:Int):DataW Unit:=if v=0 then D.del (eI m)else D.put (eI m) (.lit (.int .i64 v))
theorem Om (b n:Nat) (D:DataW Unit) (c0 c:Int) (m:M) (w:World) (hm:m.ok=true) (hown:w.ownsMap Tryz.prog 40 (plainElem Tryz.prog 138) b n D) (hn:n<maxLen) (hat:D.atKey (eI m) (.lit (.int .i64 0))= .lit (.int .i64 c0)) (a0:0≤c0) (a1:c0≤100) (h0:0≤c) (h1:c≤100):Calls Tryz.prog 165 #[.map (some b),.int .i64 c,.agg #[.int .i64 m.x,.int .i64 m.y,.int .i64 m.d,.int .i64 m.e]] w fun e w'=>e= .returned (.tuple #[])∧w'.ownsMap Tryz.prog 40 (plainElem Tryz.prog 138) b (n+1) (LZ D m ((c0+c)%101))∧w.grownBy w' (some b):=by
 have hkey:=pH hm;have r0:0≤(c0+c)%101:=by omega
 have r1:(c0+c)%101≤100:=by omega
 have hg0:=World.grownBy_alloc w (.cells #[.int .i64 m.x,.int .i64 m.y,.int .i64 m.d,.int .i64 m.e] 40) (some b);have ho0:=hown.alloc (.cells #[.int .i64 m.x,.int .i64 m.y,.int .i64 m.d,.int .i64 m.e] 40)
 by_cases hz:(c0+c)%101=0
 ·have e1:LZ D m ((c0+c)%101)=D.del (eI m):=by simp[LZ,hz]
  rw[e1];go_enter Tryz.func165,Tryz.ntmps165
  go_wp2_with (first
   |(at_lookup;refine wpList_lookup_own_int _ rfl _ _ 170 rfl 40 138 .i64 nA Tryz.underlying170 Tryz.underlying138 (Gt _) b n D rfl ho0 _ _ rfl hkey ?_;intro c1 hat1 hwc1;obtain rfl:c1=c0:=(by rw[hat]at hat1;simpa using hat1.symm))
   |(go_at_call 176;refine(Rc _ _ _ a0 a1 h0 h1).mono ?_;rintro r w2 ⟨rfl,hw⟩;obtain rfl:=hw.symm;clear hw)
   |(at_delete;refine wpList_delete_own _ rfl _ _ 170 40 rfl 138 nA Tryz.underlying170 _ b n D rfl ho0 _ _ rfl hkey ?_;intro w1 hown1 hturn1)
   |go_in)
  refine bY (results_none rfl _ _ _) rfl ?_;exact⟨rfl,wY hown1 (Nat.le_succ _),hg0.trans hturn1.grown⟩
 ·have e1:LZ D m ((c0+c)%101)=D.put (eI m) (.lit (.int .i64 ((c0+c)%101))):=by simp[LZ,hz]
  rw[e1];have hzb:((c0+c)%101==0)=false:=by simpa using hz
  go_enter Tryz.func165,Tryz.ntmps165
  go_wp2_with (first
   |(at_lookup;refine wpList_lookup_own_int _ rfl _ _ 170 rfl 40 138 .i64 nA Tryz.underlying170 Tryz.underlying138 (Gt _) b n D rfl ho0 _ _ rfl hkey ?_;intro c1 hat1 hwc1;obtain rfl:c1=c0:=(by rw[hat]at hat1;simpa using hat1.symm))
   |(go_at_call 176;refine(Rc _ _ _ a0 a1 h0 h1).mono ?_;rintro r w2 ⟨rfl,hw⟩;obtain rfl:=hw.symm;clear hw)
   |(at_mapUpdate;refine wpList_mapUpdate_own _ rfl _ _ _ 170 rfl 40 138 nA Tryz.underlying170 _ b n D rfl ho0 hn _ _ _ rfl rfl hkey _ [] (plainElem_int Tryz.underlying138 (Rz r0 r1)) ?_;intro w1 hown1 hgrow1)
   |go_in)
  go_end0
  exact⟨rfl,hown1,hg0.trans hgrow1⟩
theorem wK {a b:M} (ha:a.ok=true) (hb:b.ok=true) (h:eI a=eI b):a=b:=by
 have h1:=pH ha;have h2:=pH hb
 rw[←h]at h2;have h3:=nA.inj h1 h2
 cases a;cases b;simpa using h3
def bZ (w:World) (b n:Nat) (c:M→Int):Prop:=
 ∃D:DataW Unit,w.ownsMap Tryz.prog 40 (plainElem Tryz.prog 138) b n D∧(∀m,0≤c m∧c m≤100)∧
  (∀m:M,m.ok=true→D.atKey (eI m) (.lit (.int .i64 0))= .lit (.int .i64 (c m))∧(Maps.has D (eI m)=true↔c m≠0))∧(∀kl,Maps.has D kl=true→∃m:M,m.ok=true∧kl=eI m)
def Ox (a b:M):Bool:=decide (a.x=b.x∧a.y=b.y∧a.d=b.d∧a.e=b.e)
theorem fW {a b:M}:Ox a b=true↔a=b:=by cases a;cases b;simp[Ox]
def oJ (c:M→Int) (m:M) (v:Int) (x:M):Int:=if Ox x m=true then(c m+v)%101 else c x
theorem IM (c:M→Int) (m:M) (v:Int):oJ c m v m=(c m+v)%101:=if_pos (fW.2 rfl)
theorem EP {c:M→Int} {m x:M} {v:Int} (h:x≠m):oJ c m v x=c x:=if_neg (fun e=>h (fW.1 e))
theorem bZ.grown {w w':World} {b n:Nat} {c:M→Int} {row:Option Nat} (h:bZ w b n c) (hg:w.grownBy w' row) (hne:some b≠row):bZ w' b n c:=by
 obtain⟨D,⟨es,clock,h1,h2,h3,h4⟩,h5⟩:=h;have hlt:b<w.heap.size:=by
  rcases Nat.lt_or_ge b w.heap.size with h|h
  ·exact h
  ·rw[Array.getElem?_eq_none h]at h1;cases h1
 exact⟨D,⟨es,clock,(hg.block b hlt hne).trans h1,h2,h3,h4⟩,h5⟩
theorem LF (b n:Nat) (c:M→Int) (v:Int) (m:M) (w:World) (hm:m.ok=true) (h:bZ w b n c) (hn:n<maxLen) (h0:0≤v) (h1:v≤100):Calls Tryz.prog 165 #[.map (some b),.int .i64 v,.agg #[.int .i64 m.x,.int .i64 m.y,.int .i64 m.d,.int .i64 m.e]] w fun e w'=>e= .returned (.tuple #[])∧bZ w' b (n+1) (oJ c m v)∧w.grownBy w' (some b):=by
 obtain⟨D,hown,hc,hat,hks⟩:=h;have hD:IsMap D:=(hown.tidy nA).isMap
 have hK:WideAt.IsKeyLit (eI m):=nA.key (pH hm);refine(Om b n D (c m) v m w hm hown hn (hat m hm).1 (hc m).1 (hc m).2 h0 h1).mono ?_;rintro e w' ⟨rfl,ho,hg⟩;refine⟨rfl,⟨_,ho,fun x=>?_,fun x hx=>?_,fun kl hkl=>?_⟩,hg⟩
 ·unfold oJ;split
  ·omega
  ·exact hc x
 ·by_cases hxm:x=m
  ·subst hxm;rw[IM];unfold LZ;split
   ·rename_i hz;rw[atKey_del_same,has_del_same,hz];exact⟨rfl,by simp⟩
   ·rename_i hz;rw[atKey_put_same hD hK,has_put_same hD hK];exact⟨rfl,by simp[hz]⟩
  ·have hne:eI x≠eI m:=fun e=>hxm (wK hx hm e);rw[EP hxm];unfold LZ;split
   ·rw[atKey_del_other hne,has_del_other hne];exact hat x hx
   ·rw[atKey_put_other hne,has_put_other hne];exact hat x hx
 ·by_cases hkm:kl=eI m
  ·exact⟨m,hm,hkm⟩
  ·unfold LZ at hkl;split at hkl
   ·rw[has_del_other hkm]at hkl;exact hks kl hkl
   ·rw[has_put_other hkm]at hkl;exact hks kl hkl
end Go.Proofs.YtdidlcjhodejjaaGreat
namespace Go.Proofs.YtdidlcjhodejjaaGreat
open Go.RowKit
set_option linter.unusedVariables false
theorem zO (f:Nat→T) (m:M):∀(u i:Nat),dN f u (i+1) m=dN (fun j=>f (j+1)) u i m
 |0,_=>rfl
 |u+1,i=>by rw[dN,dN,zO f m u (i+1)]
theorem oD (m:M):∀L:List T,dN (lf L) L.length 0 m=aM L m
 |[]=>rfl
 |t::r=>by
  have e:(fun j=>lf (t::r) (j+1))=lf r:=by funext j;simp[lf]
  have e0:lf (t::r) 0=t:=rfl;rw[List.length_cons,dN,e0,aM,zO,e,oD m r]
theorem zL {L:List T} (h:aK L):Fl (lf L) L.length:=by
 have at_:∀i (hi:i<L.length),lf L i=L[i]:=fun i hi=>by unfold lf;rw[List.getD_eq_getElem?_getD,List.getElem?_eq_getElem hi];rfl
 refine⟨fun j i hji hi=>?_,fun i hi=>?_⟩
 ·rw[at_ i hi,at_ j (by omega)];exact(List.pairwise_iff_getElem.1 h.1) j i (by omega) hi hji
 ·rw[at_ i hi];exact h.2 _ (List.getElem_mem hi)
theorem bM {L:List T} (h:aK L) (m:M):0≤aM L m∧aM L m≤100:=by
 induction L with
 |nil=>simp[aM]
 |cons t r ih=>
  rw[aM];split
  ·have:=h.2 t (List.mem_cons_self ..);omega
  ·exact ih h.tail
theorem eQ:aK []:=⟨List.Pairwise.nil,fun t h=>by cases h⟩
def dJ (K X:List T):List T:=iM (lf K) K.length (lf X) X.length 0 0
theorem cU {K X:List T} (hK:aK K) (hX:aK X):aK (dJ K X)∧∀m,aM (dJ K X) m=(aM K m+aM X m)%101:=by obtain⟨_,h2,h3⟩:=nN (zL hK) (zL hX) (K.length-0+(X.length-0)) 0 0 (Nat.le_refl _);refine⟨h2,fun m=>(h3 m).trans ?_⟩;rw[Nat.sub_zero,Nat.sub_zero,oD,oD]
theorem vD {L:List T} (hL:aK L) {c:Int} {m:M} (hm:m.ok=true) (c0:0≤c) (c1:c≤100):aK (mJ c m L)∧∀x,aM (mJ c m L) x=oJ (aM L) m c x:=by
 unfold mJ;by_cases hc:c=0
 ·rw[if_pos hc];refine⟨hL,fun x=>?_⟩;unfold oJ;split
  ·rename_i hx;have:=bM hL m
   rw[fW.1 hx,hc];omega
  ·rfl
 ·rw[if_neg hc];have G:Fl (fun _=>(⟨c,m⟩:T)) 1:=⟨fun j i h1 h2=>by omega,fun i hi=>⟨hm,by show 1≤c;omega,c1⟩⟩
  obtain⟨_,h2,h3⟩:=nN (zL hL) G (L.length-0+(1-0)) 0 0 (Nat.le_refl _);refine⟨h2,fun x=>(h3 x).trans ?_⟩;rw[Nat.sub_zero,Nat.sub_zero,oD];show(aM L x+(if eF m x=true then c else 0))%101=_
  have hr:=bM hL x;unfold oJ;by_cases hx:x=m
  ·subst hx;rw[if_pos (cM.2 rfl),if_pos (fW.2 rfl)]
  ·rw[if_neg (fun e=>hx (cM.1 e).symm),if_neg (fun e=>hx (fW.1 e))];omega
def gS (xs:List T) (L:List T):List T:=xs.foldl (fun L t=>mJ t.c t.m L) L
def mW (c:M→Int) (xs:List T):M→Int:=xs.foldl (fun c t=>oJ c t.m t.c) c
def Pn (xs:List T):Prop:=∀t∈xs,t.m.ok=true∧0≤t.c∧t.c≤100
theorem rF:∀(xs:List T) (L:List T),Pn xs→aK L→aK (gS xs L)∧aM (gS xs L)=mW (aM L) xs
 |[],L,_,hL=>⟨hL,rfl⟩
 |t::r,L,hx,hL=>by
  have h1:=hx t (List.mem_cons_self ..);have h2:=vD hL h1.1 h1.2.1 h1.2.2
  have h3:=rF r (mJ t.c t.m L) (fun s hs=>hx s (List.mem_cons_of_mem _ hs)) h2.1;refine⟨h3.1,?_⟩;show aM (gS r (mJ t.c t.m L))=mW (oJ (aM L) t.m t.c) r
  rw[h3.2,funext h2.2]
theorem rZ:∀(xs:List T) (c:M→Int) (m:M),Pn xs→(∀m,0≤c m∧c m≤100)→mW c xs m=(c m+mW (fun _=>0) xs m)%101
 |[],c,m,_,hc=>by
  have:=hc m;show c m=(c m+0)%101
  omega
 |t::r,c,m,hx,hc=>by
  have h1:=hx t (List.mem_cons_self ..);have hr:∀(d:M→Int),(∀m,0≤d m∧d m≤100)→∀m,0≤oJ d t.m t.c m∧oJ d t.m t.c m≤100:=fun d hd m=>by
   unfold oJ;split
   ·omega
   ·exact hd m
  have hz:∀m:M,(0:Int)≤(fun _=>0:M→Int) m∧(fun _=>0:M→Int) m≤100:=fun _=>⟨Int.le_refl _,by show(0:Int)≤100;decide⟩
  have e1:=rZ r (oJ c t.m t.c) m (fun s hs=>hx s (List.mem_cons_of_mem _ hs)) (hr c hc);have e2:=rZ r (oJ (fun _=>0) t.m t.c) m (fun s hs=>hx s (List.mem_cons_of_mem _ hs)) (hr _ hz)
  show mW (oJ c t.m t.c) r m=(c m+mW (oJ (fun _=>0) t.m t.c) r m)%101;rw[e1,e2];unfold oJ;by_cases hx:m=t.m
  ·subst hx;rw[if_pos (fW.2 rfl),if_pos (fW.2 rfl)];clear e1 e2;dsimp only;omega
  ·rw[if_neg (fun e=>hx (fW.1 e)),if_neg (fun e=>hx (fW.1 e))];clear e1 e2;dsimp only;omega
def lC:Option (List T)→List T×Bool
 |some K=>(K,true)
 |none=>([],false)
theorem yD {L:List T} (h:aK L):ZU L:=fun t ht=>by have:=h.2 t ht;omega
def qL (f:Nat→T) (n:Nat):Prop:=∀i,i<n→(f i).m.ok=true∧0≤(f i).c∧(f i).c≤100
theorem cF {n:Nat} {f:Nat→T} (h:aN n f=true):n≤400∧qL f n:=by
 have hp:=h;simp only[aN,decide_eq_true_eq]at hp;refine⟨hp.1,fun i hi=>?_⟩;have:=(fR h).2 i hi
 exact⟨this.1,by omega,this.2.2⟩
theorem OJ {n:Nat} {f:Nat→T} (h:aN n f=true) {i:Nat} (hi:i<n):(f i).m.ok=true∧0≤(f i).c∧(f i).c≤100:=by have:=(fR h).2 i hi;exact⟨this.1,by omega,this.2.2⟩
def RL (w:World) (a:Option Addr) (c:Nat) (L:List T):Prop:=Rd w a L.length c (lf L)
theorem RL.below {w w':World} {a:Option Addr} {c:Nat} {L:List T} (h:RL w a c L) (hb:Below w.heap.size w w'):RL w' a c L:=Rd.below h hb
theorem jA {L:List T} {i:Nat} (h:i<L.length):lf L i=L[i]:=by unfold lf;rw[List.getD_eq_getElem?_getD,List.getElem?_eq_getElem h];rfl
def cG (L:List T):Bool:=aN L.length (lf L)
theorem aD {L:List T} (h:cG L=true):L.length≤400∧aK L:=by
 have hF:=fR h;have hl:L.length≤400:=by unfold cG at h;simp only[aN,decide_eq_true_eq]at h;exact h.1
 refine⟨hl,List.pairwise_iff_getElem.2 (fun i j hi hj hij=>?_),fun t ht=>?_⟩
 ·have:=hF.1 i j hij hj
  rwa[jA hi,jA hj]at this
 ·obtain⟨i,hi,rfl⟩:=List.mem_iff_getElem.1 ht;have:=hF.2 i hi
  rwa[jA hi]at this
theorem gE {L:List T} (hl:L.length≤400) (h:aK L):cG L=true:=by
 unfold cG aN;rw[decide_eq_true_eq];refine⟨hl,fun i hi=>?_⟩;have h1:=h.2 (L[i]) (List.getElem_mem hi)
 simp only[mH,Bool.and_eq_true,Bool.or_eq_true,decide_eq_true_eq];rw[jA hi];refine⟨⟨h1.2,h1.1⟩,?_⟩;by_cases h0:i=0
 ·exact .inl h0
 ·refine .inr ?_;have hi1:i-1<L.length:=by omega
  rw[jA hi1];exact(wU (h.2 _ (List.getElem_mem hi1)).1 h1.1).2 ((List.pairwise_iff_getElem.1 h.1) (i-1) i hi1 hi (by omega))
theorem sA (L K:List T):(dJ L K).length≤L.length+K.length:=by have:=BH (lf L) L.length (lf K) K.length 0 0;simpa[dJ]using this
theorem nZ (m:M):aM [] m=0:=rfl
def kZ (c:Int) (L:List T):List T:=LP c (lf L) L.length
theorem gA (c:Int) (L:List T):(kZ c L).length=L.length:=KU _ _ _
theorem nF (c:Int) (L:List T):kZ c L=L.map (fun t=>⟨c*t.c%101,t.m⟩):=by
 refine List.ext_getElem (by simp[gA]) (fun i h1 h2=>?_);have hi:i<L.length:=by rw[gA]at h1;exact h1
 rw[←jA h1,kZ,CQ _ _ _ _ hi,jA hi];simp
theorem gW {c:Int} {L:List T} (c1:1≤c) (c2:c≤100) (h:aK L):aK (kZ c L):=by
 rw[nF];refine⟨by rw[List.pairwise_map];exact h.1,fun t ht=>?_⟩;obtain⟨s,hs,rfl⟩:=List.mem_map.1 ht;have hr:=h.2 s hs
 have hne:=TX (a:=c) (b:=s.c) (by omega) (by omega) (by omega) (by omega);rw[jW (by omega) c2 (by omega) hr.2.2]at hne;exact⟨hr.1,by show 1≤c*s.c%101;omega,by show c*s.c%101≤100;omega⟩
theorem PG (c:Int) (m:M):∀L:List T,aM (kZ c L) m=c*aM L m%101:=by
 intro L;rw[nF];induction L with
 |nil=>simp[aM]
 |cons t r ih=>
  rw[List.map_cons,aM,aM];split
  ·rfl
  ·exact ih
def Sj (c:Int) (L:List T):List T:=fD c (lf L) L.length
theorem SZ {c:Int} {L:List T} (c1:1≤c) (c2:c≤100) (h:cG L=true):Sj c L=kZ c L:=if_pos ⟨by omega,h,by omega⟩
def cY (L K:List T):List T:=dJ L (kZ 100 K)
theorem EI (L K:List T):(cY L K).length≤L.length+K.length:=by have:=sA L (kZ 100 K);rw[gA]at this;exact this
theorem cW {L K:List T} (hL:aK L) (hK:aK K):aK (cY L K)∧∀m,aM (cY L K) m=(aM L m+100*aM K m%101)%101:=by
 have h:=cU hL (gW (c:=100) (by omega) (by omega) hK);refine⟨h.1,fun m=>?_⟩;show aM (dJ L (kZ 100 K)) m=_
 rw[h.2,PG]
theorem sub_self {L:List T} (hL:aK L):cY L L=[]:=by
 have h1:=cW hL hL;refine lI h1.1 eQ (fun m _=>?_);have r1:=bM hL m
 rw[h1.2,nZ];omega
theorem PY {L K:List T} (hL:aK L) (hK:aK K):cY L K=[]↔L=K:=by
 constructor
 ·intro h;have h1:=cW hL hK
  refine lI hL hK (fun m _=>?_);have h2:=h1.2 m
  rw[h,nZ]at h2;have r1:=bM hL m
  have r2:=bM hK m;omega
 ·intro h;rw[h];exact sub_self hK
end Go.Proofs.YtdidlcjhodejjaaGreat
namespace Go.Proofs.YtdidlcjhodejjaaGreat
set_option linter.unusedVariables false
abbrev Fq:=Fin 101
def zz (a:Int):Fq:=Fin.ofNat 101 (a%101).toNat
theorem mS (a:Int):zz (a%101)=zz a:=by unfold zz;rw[Int.emod_emod_of_dvd _ (Int.dvd_refl 101)]
theorem TF (a b:Int):zz (a+b)=zz a+zz b:=by unfold zz;apply Fin.ext;simp[Fin.val_add];omega
theorem Gu {a b:Int} (ha:0≤a∧a≤100) (hb:0≤b∧b≤100) (h:zz a=zz b):a=b:=by unfold zz at h;have:=congrArg Fin.val h;simp at this;omega
theorem pN (a b:Int):zz (a*b)=zz a*zz b:=by
 unfold zz;apply Fin.ext;simp[Fin.val_mul];have h1:=Int.mul_emod a b 101
 have h2:((a%101).toNat:Int)=a%101:=by omega
 have h3:((b%101).toNat:Int)=b%101:=by omega
 have h4:(((a%101).toNat*(b%101).toNat%101:Nat):Int)=(a%101)*(b%101)%101:=by rw[Int.natCast_emod,Int.natCast_mul,h2,h3];rfl
 omega
theorem WG:zz 0=0:=rfl
theorem IQ {a:Int} (h1:1≤a) (h2:a≤100):zz a≠0:=fun h=>by
 have:=Gu (a:=a) (b:=0) ⟨by omega,h2⟩ ⟨by omega,by omega⟩ h;omega
def su {α:Type}:List α→(α→Fq)→Fq
 |[],_=>0
 |t::r,f=>f t+su r f
theorem EG {α:Type} (f g:α→Fq):∀L:List α,su L (fun t=>f t+g t)=su L f+su L g
 |[]=>by simp[su]
 |t::r=>by rw[su,su,su,EG f g r];grind
theorem TC {α:Type} (c:Fq) (f:α→Fq):∀L:List α,su L (fun t=>c*f t)=c*su L f
 |[]=>by show(0:Fq)=c*0;grind
 |t::r=>by rw[su,su,TC c f r];grind
theorem rJ {α:Type} (f:α→Fq):∀L:List α,(∀t∈L,f t=0)→su L f=0
 |[],_=>rfl
 |t::r,h=>by rw[su,rJ f r (fun s hs=>h s (List.mem_cons_of_mem _ hs)),h t (List.mem_cons_self ..)];rfl
theorem fE {α:Type} {f g:α→Fq}:∀{L:List α},(∀t∈L,f t=g t)→su L f=su L g
 |[],_=>rfl
 |t::r,h=>by rw[su,su,fE (L:=r) (fun s hs=>h s (List.mem_cons_of_mem _ hs)),h t (List.mem_cons_self ..)]
theorem nS {α:Type} (f:α→Fq):∀L K:List α,su (L++K) f=su L f+su K f
 |[],K=>by simp[su]
 |t::r,K=>by rw[List.cons_append,su,su,nS f r K];grind
theorem yW {α β:Type} (h:α→β) (f:β→Fq):∀L:List α,su (L.map h) f=su L (fun t=>f (h t))
 |[]=>rfl
 |t::r=>by rw[List.map_cons,su,su,yW h f r]
theorem LD {α β:Type} (h:α→List β) (f:β→Fq):∀L:List α,su (L.flatMap h) f=su L (fun t=>su (h t) f)
 |[]=>rfl
 |t::r=>by rw[List.flatMap_cons,nS,su,LD h f r]
abbrev Vq:=Nat→Nat→Fq
def va (u v:Vq):Vq:=fun n k=>u n k+v n k
def vs (c:Fq) (u:Vq):Vq:=fun n k=>c*u n k
structure Lq where
 f:Vq→Vq
 add:∀u v,f (va u v)=va (f u) (f v)
 smul:∀c u,f (vs c u)=vs c (f u)
theorem Lq.ext {A B:Lq} (h:∀u n k,A.f u n k=B.f u n k):A=B:=by have:A.f=B.f:=funext fun u=>funext fun n=>funext fun k=>h u n k;cases A;cases B;cases this;rfl
def v0:Vq:=fun _ _=>0
theorem Lq.zero (A:Lq):A.f v0=v0:=by
 have h:=A.smul 0 v0;have e:vs 0 v0=v0:=by funext n k;simp[vs,v0]
 rw[e]at h;rw[h];funext n k;show 0*_=(0:Fq);grind
namespace Lq
def mul (A B:Lq):Lq:=⟨fun u=>B.f (A.f u),fun u v=>by rw[A.add,B.add],fun c u=>by rw[A.smul,B.smul]⟩
def sum (A B:Lq):Lq:=⟨fun u=>va (A.f u) (B.f u),fun u v=>by rw[A.add,B.add];funext n k;simp only[va];grind,fun c u=>by rw[A.smul,B.smul];funext n k;simp only[va,vs];grind⟩
def sc (c:Fq) (A:Lq):Lq:=⟨fun u=>vs c (A.f u),fun u v=>by rw[A.add];funext n k;simp only[va,vs];grind,fun d u=>by rw[A.smul];funext n k;simp only[vs];grind⟩
def one:Lq:=⟨fun u=>u,fun _ _=>rfl,fun _ _=>rfl⟩
def nil:Lq:=⟨fun _=>v0,fun u v=>by funext n k;simp[va,v0],fun c u=>by funext n k;show(0:Fq)=c*0;grind⟩
def pow (A:Lq):Nat→Lq
 |0=>one
 |n+1=>mul (pow A n) A
theorem mul_assoc (A B C:Lq):mul (mul A B) C=mul A (mul B C):=rfl
theorem one_mul (A:Lq):mul one A=A:=rfl
theorem mul_one (A:Lq):mul A one=A:=rfl
theorem sum_mul (A B C:Lq):mul (sum A B) C=sum (mul A C) (mul B C):=Lq.ext fun u n k=>by show C.f (va _ _) n k=_;rw[C.add];rfl
theorem mul_sum (A B C:Lq):mul C (sum A B)=sum (mul C A) (mul C B):=rfl
theorem sc_mul (c:Fq) (A B:Lq):mul (sc c A) B=sc c (mul A B):=Lq.ext fun u n k=>by show B.f (vs _ _) n k=_;rw[B.smul];rfl
theorem mul_sc (c:Fq) (A B:Lq):mul A (sc c B)=sc c (mul A B):=rfl
theorem sc_sc (c d:Fq) (A:Lq):sc c (sc d A)=sc (c*d) A:=Lq.ext fun u n k=>by show c*(d*_)=c*d*_;grind
theorem sc_one (A:Lq):sc 1 A=A:=Lq.ext fun u n k=>by show 1*_=_;grind
theorem sc_zero (A:Lq):sc 0 A=nil:=Lq.ext fun u n k=>by show 0*_=(0:Fq);grind
theorem sc_sum (c:Fq) (A B:Lq):sc c (sum A B)=sum (sc c A) (sc c B):=Lq.ext fun u n k=>by show c*(_+_)=c*_+c*_;grind
theorem sc_add (c d:Fq) (A:Lq):sc (c+d) A=sum (sc c A) (sc d A):=Lq.ext fun u n k=>by show(c+d)*_=c*_+d*_;grind
theorem sum_comm (A B:Lq):sum A B=sum B A:=Lq.ext fun u n k=>by show _+_=_+_;grind
theorem sum_assoc (A B C:Lq):sum (sum A B) C=sum A (sum B C):=Lq.ext fun u n k=>by show _+_+_=_+(_+_);grind
theorem sum_nil (A:Lq):sum A nil=A:=Lq.ext fun u n k=>by show _+(0:Fq)=_;grind
theorem nil_mul (A:Lq):mul nil A=nil:=Lq.ext fun u n k=>by show A.f v0 n k=_;rw[A.zero];rfl
theorem pow_succ' (A:Lq):∀n,pow A (n+1)=mul A (pow A n)
 |0=>rfl
 |n+1=>by show mul (pow A (n+1)) A=mul A (mul (pow A n) A);rw[pow_succ' A n,mul_assoc]
theorem pow_add (A:Lq) (n:Nat):∀m,pow A (n+m)=mul (pow A n) (pow A m)
 |0=>rfl
 |m+1=>by rw[←Nat.add_assoc,pow,pow_add A n m,pow,mul_assoc]
def Com (A B:Lq):Prop:=mul A B=mul B A
theorem Com.symm {A B:Lq} (h:Com A B):Com B A:=Eq.symm h
theorem Com.one (A:Lq):Com A Lq.one:=rfl
theorem Com.mul {A B C:Lq} (h1:Com A B) (h2:Com A C):Com A (Lq.mul B C):=by unfold Com at *;rw[←mul_assoc,h1,mul_assoc,h2,mul_assoc]
theorem Com.pow {A B:Lq} (h:Com A B):∀n,Com A (Lq.pow B n)
 |0=>Com.one A
 |n+1=>(h.pow n).mul h
theorem Com.pows {A B:Lq} (h:Com A B) (m n:Nat):Com (Lq.pow A m) (Lq.pow B n):=((h.pow n).symm.pow m).symm
def sumN (f:Nat→Lq):Nat→Lq
 |0=>nil
 |n+1=>sum (sumN f n) (f n)
theorem sumN_sum (f g:Nat→Lq):∀n,sumN (fun i=>sum (f i) (g i)) n=sum (sumN f n) (sumN g n)
 |0=>(sum_nil nil).symm
 |n+1=>by rw[sumN,sumN,sumN,sumN_sum f g n];exact Lq.ext fun u n k=>by show _+_+(_+_)=_+_+(_+_);grind
theorem mul_sumN (A:Lq) (f:Nat→Lq):∀n,mul A (sumN f n)=sumN (fun i=>mul A (f i)) n
 |0=>rfl
 |n+1=>by rw[sumN,mul_sum,mul_sumN A f n];rfl
theorem sumN_congr {f g:Nat→Lq}:∀{n},(∀i,i<n→f i=g i)→sumN f n=sumN g n
 |0,_=>rfl
 |n+1,h=>by rw[sumN,sumN,sumN_congr (n:=n) (fun i hi=>h i (by omega)),h n (by omega)]
theorem sumN_head (f:Nat→Lq):∀n,sumN f (n+1)=sum (f 0) (sumN (fun i=>f (i+1)) n)
 |0=>by rw[sumN,sumN,sumN,sum_comm]
 |n+1=>by rw[sumN,sumN_head f n,sumN,sum_assoc]
theorem sumN_cut {f:Nat→Lq} {m n:Nat} (h:m≤n) (h0:∀i,m≤i→f i=nil):sumN f n=sumN f m:=by
 induction n with
 |zero=>rw[show m=0 by omega]
 |succ n ih=>
  by_cases e:m=n+1
  ·rw[e]
  ·rw[sumN,h0 n (by omega),sum_nil,ih (by omega)]
end Lq
def Lr:Nat→Nat→Nat
 |_,0=>1
 |0,_+1=>0
 |n+1,k+1=>Lr n (k+1)+Lr n k
def TZ (c:Nat):Nat→Nat
 |0=>1
 |i+1=>TZ c i*(c-i)
theorem vU:∀n k,n<k→Lr n k=0
 |0,k+1,_=>by rw[Lr]
 |n+1,k+1,h=>by rw[Lr,vU n (k+1) (by omega),vU n k (by omega)]
theorem BN (n:Nat):Lr n 0=1:=by cases n<;>rfl
theorem wG (c:Nat):∀i,c<i→TZ c i=0
 |i+1,h=>by
  rw[TZ];by_cases e:c=i
  ·rw[e];simp
  ·rw[wG c i (by omega)];simp
def nf (n:Nat):Fq:=Fin.ofNat 101 n
theorem yN (a b:Nat):nf (a+b)=nf a+nf b:=by unfold nf;apply Fin.ext;simp[Fin.val_add]
theorem SH (a b:Nat):nf (a*b)=nf a*nf b:=by unfold nf;apply Fin.ext;simp[Fin.val_mul]
theorem qZ:nf 1=1:=rfl
theorem jX:nf 0=0:=rfl
def Po (x d:Lq):Prop:=Lq.mul d x=Lq.sum (Lq.mul x d) Lq.one
theorem WD {x d:Lq} (h:Po x d):∀c,Lq.mul d (Lq.pow x c)=Lq.sum (Lq.mul (Lq.pow x c) d) (Lq.sc (nf c) (Lq.pow x (c-1)))
 |0=>by rw[jX,Lq.sc_zero,Lq.sum_nil];rfl
 |c+1=>by
  rw[Lq.pow,←Lq.mul_assoc,WD h c,Lq.sum_mul,Lq.mul_assoc,h,Lq.mul_sum,Lq.mul_one,Lq.sc_mul,←Lq.mul_assoc,Lq.sum_assoc,yN,Lq.sc_add,qZ,Lq.sc_one];congr 1;show Lq.sum (Lq.pow x c) _=Lq.sum _ (Lq.pow x (c+1-1))
  rw[Lq.sum_comm];congr 1;cases c with
  |zero=>rw[jX,Lq.sc_zero,Lq.sc_zero]
  |succ c=>rfl
def wN (b c i:Nat):Nat:=Lr b i*TZ c i
theorem IP {x d:Lq} (h:Po x d) (c:Nat):∀b,Lq.mul (Lq.pow d b) (Lq.pow x c)=Lq.sumN (fun i=>Lq.sc (nf (wN b c i)) (Lq.mul (Lq.pow x (c-i)) (Lq.pow d (b-i)))) (b+1)
 |0=>by
  show Lq.pow x c=Lq.sum Lq.nil (Lq.sc (nf (wN 0 c 0)) (Lq.mul (Lq.pow x (c-0)) Lq.one));rw[Lq.sum_comm,Lq.sum_nil];show _=Lq.sc (nf 1) _
  rw[qZ,Lq.sc_one];rfl
 |b+1=>by
  rw[Lq.pow_succ',Lq.mul_assoc,IP h c b,Lq.mul_sumN];have e1:Lq.sumN (fun i=>Lq.mul d (Lq.sc (nf (wN b c i)) (Lq.mul (Lq.pow x (c-i)) (Lq.pow d (b-i))))) (b+1)=Lq.sumN (fun i=>Lq.sum (Lq.sc (nf (wN b c i)) (Lq.mul (Lq.pow x (c-i)) (Lq.pow d (b+1-i)))) (Lq.sc (nf (wN b c i*(c-i))) (Lq.mul (Lq.pow x (c-(i+1))) (Lq.pow d (b-i))))) (b+1):=by refine Lq.sumN_congr (fun i hi=>?_);rw[Lq.mul_sc,←Lq.mul_assoc,WD h,Lq.sum_mul,Lq.sc_sum,Lq.mul_assoc,←Lq.pow_succ',Lq.sc_mul,Lq.sc_sc,SH,show b-i+1=b+1-i by omega,show c-i-1=c-(i+1) by omega]
  rw[e1,Lq.sumN_sum];rw[Lq.sumN_head (fun i=>Lq.sc (nf (wN (b+1) c i)) (Lq.mul (Lq.pow x (c-i)) (Lq.pow d (b+1-i))))];have e2:Lq.sumN (fun i=>Lq.sc (nf (wN (b+1) c (i+1))) (Lq.mul (Lq.pow x (c-(i+1))) (Lq.pow d (b+1-(i+1))))) (b+1)=Lq.sum (Lq.sumN (fun i=>Lq.sc (nf (wN b c (i+1))) (Lq.mul (Lq.pow x (c-(i+1))) (Lq.pow d (b+1-(i+1))))) (b+1)) (Lq.sumN (fun i=>Lq.sc (nf (wN b c i*(c-i))) (Lq.mul (Lq.pow x (c-(i+1))) (Lq.pow d (b-i)))) (b+1)):=by
   rw[←Lq.sumN_sum];refine Lq.sumN_congr (fun i hi=>?_);have:wN (b+1) c (i+1)=wN b c (i+1)+wN b c i*(c-i):=by unfold wN;rw[Lr,TZ,Nat.add_mul,Nat.mul_assoc]
   rw[this,yN,Lq.sc_add,show b+1-(i+1)=b-i by omega]
  rw[e2,←Lq.sum_assoc];congr 1;rw[show wN (b+1) c 0=wN b c 0 by simp[wN,BN],←Lq.sumN_head (fun i=>Lq.sc (nf (wN b c i)) (Lq.mul (Lq.pow x (c-i)) (Lq.pow d (b+1-i)))),Lq.sumN.eq_2 _ (b+1)];have:wN b c (b+1)=0:=by unfold wN;rw[vU b (b+1) (by omega),Nat.zero_mul]
  rw[this,jX,Lq.sc_zero,Lq.sum_nil]
end Go.Proofs.YtdidlcjhodejjaaGreat
