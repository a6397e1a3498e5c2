/-
  Sums while they are made: a map from monomials to numbers; what adding a term to it does.
-/
import Derived.Maps.OwnSet
import Derived.Maps.OwnOps
import Derived.Maps.Views
import Derived.Maps.AppendAt
import Derived.Test.YtelkehjdfcoeiaaGreatMak
import Derived.Sort.Row
import Derived.Shelf.SlSortCmp.QuietGrown
set_option maxHeartbeats 1000000
namespace Go.Proofs.YtelkehjdfcoeiaaGreat
open Go.RowKit Go.Maps
set_option linter.unusedVariables false
theorem YU:laidOutB Tryz.prog=true:=by kernel_rfl
theorem mE:Keyed Tryz.prog 84:=Keyed.of_law (deep_law_laid YU (m:=2) (by omega) (of_decide_eq_true (by kernel_rfl)) (by kernel_rfl) (by kernel_rfl))
theorem Hq {n:Int} (h0:0≤n) (h1:n≤15):(Lit.int .i64 n).wf=true:=WalkArith.wf_i64 (by omega)
def eD (m:M):Lit:=.string (keyBytes [.int .i64 m.x,.int .i64 m.y,.int .i64 m.d,.int .i64 m.e])
theorem oO {m:M} (h:m.ok=true):keyOf Tryz.prog 84 (.agg #[.int .i64 m.x,.int .i64 m.y,.int .i64 m.d,.int .i64 m.e])=some (eD m):=by
 obtain⟨x1,x2,y1,y2,d1,d2,e1,e2⟩:=M.ok_iff.1 h;have w1:=Hq x1 x2
 have w2:=Hq y1 y2;have w3:=Hq d1 d2
 have w4:=Hq e1 e2;have hk:Tryz.prog.keyType 84=true:=by kernel_rfl
 have hc:Tryz.prog.cellsOf 84=4:=by kernel_rfl
 have h1:Tryz.prog.cellsOf 3=1:=by kernel_rfl
 obtain⟨D,hD⟩:∃D,Tryz.prog.types.size+1=D+1+1:=⟨Tryz.prog.types.size-1,by have:0<Tryz.prog.types.size:=of_decide_eq_true (by kernel_rfl);omega⟩
 unfold keyOf;simp only[Tryz.underlying84,hk,hD,Value.formed,hc];simp[Program.keyLits,Tryz.underlying84,hc,h1,w1,w2,w3,w4,Value.cells,eD]
theorem Dl (w:World):(zeroValue 131).run Tryz.prog w= .ok (.int .i64 0) w:=by kernel_rfl
theorem Nl {n:Int} (h0:0≤n) (h1:n≤100):(Lit.int .i64 n).wf=true:=WalkArith.wf_i64 (by omega)
theorem vZ {w:World} {P:Program} {k:TypeId} {R:Value→Option (DataW Unit×List MemPlace)} {b n n':Nat} {D:DataW Unit} (h:w.ownsMap P k R b n D) (hn:n≤n'):w.ownsMap P k R b n' D:=by obtain⟨es,clock,h1,h2,h3,h4⟩:=h;exact⟨es,clock,h1,h2,jQ h3 hn,h4⟩
def JK (D:DataW Unit) (m:M) (v:Int):DataW Unit:=if v=0 then D.del (eD m)else D.put (eD m) (.lit (.int .i64 v))
theorem Km (b n:Nat) (D:DataW Unit) (c0 c:Int) (m:M) (w:World) (hm:m.ok=true) (hown:w.ownsMap Tryz.prog 84 (plainElem Tryz.prog 131) b n D) (hn:n<maxLen) (hat:D.atKey (eD m) (.lit (.int .i64 0))= .lit (.int .i64 c0)) (a0:0≤c0) (a1:c0≤100) (h0:0≤c) (h1:c≤100):Calls Tryz.prog 145 #[.map (some b),.int .i64 c,.agg #[.int .i64 m.x,.int .i64 m.y,.int .i64 m.d,.int .i64 m.e]] w fun e w'=>e= .returned (.tuple #[])∧w'.ownsMap Tryz.prog 84 (plainElem Tryz.prog 131) b (n+1) (JK D m ((c0+c)%101))∧w.grownBy w' (some b):=by
 have hkey:=oO hm;have r0:0≤(c0+c)%101:=by omega
 have r1:(c0+c)%101≤100:=by omega
 have hg0:=World.grownBy_alloc w (.cells #[.int .i64 m.x,.int .i64 m.y,.int .i64 m.d,.int .i64 m.e] 84) (some b);have ho0:=hown.alloc (.cells #[.int .i64 m.x,.int .i64 m.y,.int .i64 m.d,.int .i64 m.e] 84)
 by_cases hz:(c0+c)%101=0
 ·have e1:JK D m ((c0+c)%101)=D.del (eD m):=by simp[JK,hz]
  rw[e1];go_enter Tryz.func145,Tryz.ntmps145
  go_wp2_with (first
   |(at_lookup;refine wpList_lookup_own_int _ rfl _ _ 95 rfl 84 131 .i64 mE Tryz.underlying95 Tryz.underlying131 (Dl _) b n D rfl ho0 _ _ rfl hkey ?_;intro c1 hat1 hwc1;obtain rfl:c1=c0:=(by rw[hat]at hat1;simpa using hat1.symm))
   |(go_at_call 173;refine(Mt _ _ _ a0 a1 h0 h1).mono ?_;rintro r w2 ⟨rfl,hw⟩;obtain rfl:=hw.symm;clear hw)
   |(at_delete;refine wpList_delete_own _ rfl _ _ 95 84 rfl 131 mE Tryz.underlying95 _ b n D rfl ho0 _ _ rfl hkey ?_;intro w1 hown1 hturn1)
   |go_in)
  refine cD (results_none rfl _ _ _) rfl ?_;exact⟨rfl,vZ hown1 (Nat.le_succ _),hg0.trans hturn1.grown⟩
 ·have e1:JK D m ((c0+c)%101)=D.put (eD m) (.lit (.int .i64 ((c0+c)%101))):=by simp[JK,hz]
  rw[e1];have hzb:((c0+c)%101==0)=false:=by simpa using hz
  go_enter Tryz.func145,Tryz.ntmps145
  go_wp2_with (first
   |(at_lookup;refine wpList_lookup_own_int _ rfl _ _ 95 rfl 84 131 .i64 mE Tryz.underlying95 Tryz.underlying131 (Dl _) b n D rfl ho0 _ _ rfl hkey ?_;intro c1 hat1 hwc1;obtain rfl:c1=c0:=(by rw[hat]at hat1;simpa using hat1.symm))
   |(go_at_call 173;refine(Mt _ _ _ a0 a1 h0 h1).mono ?_;rintro r w2 ⟨rfl,hw⟩;obtain rfl:=hw.symm;clear hw)
   |(at_mapUpdate;refine wpList_mapUpdate_own _ rfl _ _ _ 95 rfl 84 131 mE Tryz.underlying95 _ b n D rfl ho0 hn _ _ _ rfl rfl hkey _ [] (plainElem_int Tryz.underlying131 (Nl r0 r1)) ?_;intro w1 hown1 hgrow1)
   |go_in)
  go_end0
  exact⟨rfl,hown1,hg0.trans hgrow1⟩
theorem vR {a b:M} (ha:a.ok=true) (hb:b.ok=true) (h:eD a=eD b):a=b:=by
 have h1:=oO ha;have h2:=oO hb
 rw[←h]at h2;have h3:=mE.inj h1 h2
 cases a;cases b;simpa using h3
def bU (w:World) (b n:Nat) (c:M→Int):Prop:=
 ∃D:DataW Unit,w.ownsMap Tryz.prog 84 (plainElem Tryz.prog 131) b n D∧(∀m,0≤c m∧c m≤100)∧
  (∀m:M,m.ok=true→D.atKey (eD m) (.lit (.int .i64 0))= .lit (.int .i64 (c m))∧(Maps.has D (eD m)=true↔c m≠0))∧(∀kl,Maps.has D kl=true→∃m:M,m.ok=true∧kl=eD m)
def Kv (a b:M):Bool:=decide (a.x=b.x∧a.y=b.y∧a.d=b.d∧a.e=b.e)
theorem fZ {a b:M}:Kv a b=true↔a=b:=by cases a;cases b;simp[Kv]
def nN (c:M→Int) (m:M) (v:Int) (x:M):Int:=if Kv x m=true then(c m+v)%101 else c x
theorem FI (c:M→Int) (m:M) (v:Int):nN c m v m=(c m+v)%101:=if_pos (fZ.2 rfl)
theorem DC {c:M→Int} {m x:M} {v:Int} (h:x≠m):nN c m v x=c x:=if_neg (fun e=>h (fZ.1 e))
theorem bU.grown {w w':World} {b n:Nat} {c:M→Int} {row:Option Nat} (h:bU w b n c) (hg:w.grownBy w' row) (hne:some b≠row):bU w' b n c:=by
 obtain⟨D,⟨es,clock,h1,h2,h3,h4⟩,h5⟩:=h;have hlt:b<w.heap.size:=by
  rcases Nat.lt_or_ge b w.heap.size with h|h
  ·exact h
  ·rw[Array.getElem?_eq_none h]at h1;cases h1
 exact⟨D,⟨es,clock,(hg.block b hlt hne).trans h1,h2,h3,h4⟩,h5⟩
theorem IR (b n:Nat) (c:M→Int) (v:Int) (m:M) (w:World) (hm:m.ok=true) (h:bU w b n c) (hn:n<maxLen) (h0:0≤v) (h1:v≤100):Calls Tryz.prog 145 #[.map (some b),.int .i64 v,.agg #[.int .i64 m.x,.int .i64 m.y,.int .i64 m.d,.int .i64 m.e]] w fun e w'=>e= .returned (.tuple #[])∧bU w' b (n+1) (nN c m v)∧w.grownBy w' (some b):=by
 obtain⟨D,hown,hc,hat,hks⟩:=h;have hD:IsMap D:=(hown.tidy mE).isMap
 have hK:WideAt.IsKeyLit (eD m):=mE.key (oO hm);refine(Km b n D (c m) v m w hm hown hn (hat m hm).1 (hc m).1 (hc m).2 h0 h1).mono ?_;rintro e w' ⟨rfl,ho,hg⟩;refine⟨rfl,⟨_,ho,fun x=>?_,fun x hx=>?_,fun kl hkl=>?_⟩,hg⟩
 ·unfold nN;split
  ·omega
  ·exact hc x
 ·by_cases hxm:x=m
  ·subst hxm;rw[FI];unfold JK;split
   ·rename_i hz;rw[atKey_del_same,has_del_same,hz];exact⟨rfl,by simp⟩
   ·rename_i hz;rw[atKey_put_same hD hK,has_put_same hD hK];exact⟨rfl,by simp[hz]⟩
  ·have hne:eD x≠eD m:=fun e=>hxm (vR hx hm e);rw[DC hxm];unfold JK;split
   ·rw[atKey_del_other hne,has_del_other hne];exact hat x hx
   ·rw[atKey_put_other hne,has_put_other hne];exact hat x hx
 ·by_cases hkm:kl=eD m
  ·exact⟨m,hm,hkm⟩
  ·unfold JK at hkl;split at hkl
   ·rw[has_del_other hkm]at hkl;exact hks kl hkl
   ·rw[has_put_other hkm]at hkl;exact hks kl hkl
open Go.RowKit
theorem yL (f:Nat→T) (m:M):∀(u i:Nat),dI f u (i+1) m=dI (fun j=>f (j+1)) u i m
 |0,_=>rfl
 |u+1,i=>by rw[dI,dI,yL f m u (i+1)]
theorem nB (m:M):∀L:List T,dI (lf L) L.length 0 m=aM L m
 |[]=>rfl
 |t::r=>by
  have e:(fun j=>lf (t::r) (j+1))=lf r:=by funext j;simp[lf]
  have e0:lf (t::r) 0=t:=rfl;rw[List.length_cons,dI,e0,aM,yL,e,nB m r]
theorem yJ {L:List T} (h:aL L):Fl (lf L) L.length:=by
 have at_:∀i (hi:i<L.length),lf L i=L[i]:=fun i hi=>by unfold lf;rw[List.getD_eq_getElem?_getD,List.getElem?_eq_getElem hi];rfl
 refine⟨fun j i hji hi=>?_,fun i hi=>?_⟩
 ·rw[at_ i hi,at_ j (by omega)];exact(List.pairwise_iff_getElem.1 h.1) j i (by omega) hi hji
 ·rw[at_ i hi];exact h.2 _ (List.getElem_mem hi)
theorem cC {L:List T} (h:aL L) (m:M):0≤aM L m∧aM L m≤100:=by
 induction L with
 |nil=>simp[aM]
 |cons t r ih=>
  rw[aM];split
  ·have:=h.2 t (List.mem_cons_self ..);omega
  ·exact ih h.tail
theorem eY:aL []:=⟨List.Pairwise.nil,fun t h=>by cases h⟩
def dG (K X:List T):List T:=iJ (lf K) K.length (lf X) X.length 0 0
theorem cW {K X:List T} (hK:aL K) (hX:aL X):aL (dG K X)∧∀m,aM (dG K X) m=(aM K m+aM X m)%101:=by obtain⟨_,h2,h3⟩:=mR (yJ hK) (yJ hX) (K.length-0+(X.length-0)) 0 0 (Nat.le_refl _);refine⟨h2,fun m=>(h3 m).trans ?_⟩;rw[Nat.sub_zero,Nat.sub_zero,nB,nB]
theorem uF {L:List T} (hL:aL L) {c:Int} {m:M} (hm:m.ok=true) (c0:0≤c) (c1:c≤100):aL (lJ c m L)∧∀x,aM (lJ c m L) x=nN (aM L) m c x:=by
 unfold lJ;by_cases hc:c=0
 ·rw[if_pos hc];refine⟨hL,fun x=>?_⟩;unfold nN;split
  ·rename_i hx;have:=cC hL m
   rw[fZ.1 hx,hc];omega
  ·rfl
 ·rw[if_neg hc];have G:Fl (fun _=>(⟨c,m⟩:T)) 1:=⟨fun j i h1 h2=>by omega,fun i hi=>⟨hm,by show 1≤c;omega,c1⟩⟩
  obtain⟨_,h2,h3⟩:=mR (yJ hL) G (L.length-0+(1-0)) 0 0 (Nat.le_refl _);refine⟨h2,fun x=>(h3 x).trans ?_⟩;rw[Nat.sub_zero,Nat.sub_zero,nB];show(aM L x+(if eF m x=true then c else 0))%101=_
  have hr:=cC hL x;unfold nN;by_cases hx:x=m
  ·subst hx;rw[if_pos (cK.2 rfl),if_pos (fZ.2 rfl)]
  ·rw[if_neg (fun e=>hx (cK.1 e).symm),if_neg (fun e=>hx (fZ.1 e))];omega
def gP (xs:List T) (L:List T):List T:=xs.foldl (fun L t=>lJ t.c t.m L) L
def mB (c:M→Int) (xs:List T):M→Int:=xs.foldl (fun c t=>nN c t.m t.c) c
def Lk (xs:List T):Prop:=∀t∈xs,t.m.ok=true∧0≤t.c∧t.c≤100
theorem qH:∀(xs:List T) (L:List T),Lk xs→aL L→aL (gP xs L)∧aM (gP xs L)=mB (aM L) xs
 |[],L,_,hL=>⟨hL,rfl⟩
 |t::r,L,hx,hL=>by
  have h1:=hx t (List.mem_cons_self ..);have h2:=uF hL h1.1 h1.2.1 h1.2.2
  have h3:=qH r (lJ t.c t.m L) (fun s hs=>hx s (List.mem_cons_of_mem _ hs)) h2.1;refine⟨h3.1,?_⟩;show aM (gP r (lJ t.c t.m L))=mB (nN (aM L) t.m t.c) r
  rw[h3.2,funext h2.2]
theorem qZ:∀(xs:List T) (c:M→Int) (m:M),Lk xs→(∀m,0≤c m∧c m≤100)→mB c xs m=(c m+mB (fun _=>0) xs m)%101
 |[],c,m,_,hc=>by
  have:=hc m;show c m=(c m+0)%101
  omega
 |t::r,c,m,hx,hc=>by
  have h1:=hx t (List.mem_cons_self ..);have hr:∀(d:M→Int),(∀m,0≤d m∧d m≤100)→∀m,0≤nN d t.m t.c m∧nN d t.m t.c m≤100:=fun d hd m=>by
   unfold nN;split
   ·omega
   ·exact hd m
  have hz:∀m:M,(0:Int)≤(fun _=>0:M→Int) m∧(fun _=>0:M→Int) m≤100:=fun _=>⟨Int.le_refl _,by show(0:Int)≤100;decide⟩
  have e1:=qZ r (nN c t.m t.c) m (fun s hs=>hx s (List.mem_cons_of_mem _ hs)) (hr c hc);have e2:=qZ r (nN (fun _=>0) t.m t.c) m (fun s hs=>hx s (List.mem_cons_of_mem _ hs)) (hr _ hz)
  show mB (nN c t.m t.c) r m=(c m+mB (nN (fun _=>0) t.m t.c) r m)%101;rw[e1,e2];unfold nN;by_cases hx:m=t.m
  ·subst hx;rw[if_pos (fZ.2 rfl),if_pos (fZ.2 rfl)];clear e1 e2;dsimp only;omega
  ·rw[if_neg (fun e=>hx (fZ.1 e)),if_neg (fun e=>hx (fZ.1 e))];clear e1 e2;dsimp only;omega
def kW:Option (List T)→List T×Bool
 |some K=>(K,true)
 |none=>([],false)
theorem xE {L:List T} (h:aL L):XA L:=fun t ht=>by have:=h.2 t ht;omega
def pR (f:Nat→T) (n:Nat):Prop:=∀i,i<n→(f i).m.ok=true∧0≤(f i).c∧(f i).c≤100
theorem cJ {n:Nat} {f:Nat→T} (h:aO n f=true):n≤400∧pR f n:=by
 have hp:=h;simp only[aO,decide_eq_true_eq]at hp;refine⟨hp.1,fun i hi=>?_⟩;have:=(fW h).2 i hi
 exact⟨this.1,by omega,this.2.2⟩
theorem LT {n:Nat} {f:Nat→T} (h:aO n f=true) {i:Nat} (hi:i<n):(f i).m.ok=true∧0≤(f i).c∧(f i).c≤100:=by have:=(fW h).2 i hi;exact⟨this.1,by omega,this.2.2⟩
def RL (w:World) (a:Option Addr) (c:Nat) (L:List T):Prop:=Rd w a L.length c (lf L)
theorem RL.below {w w':World} {a:Option Addr} {c:Nat} {L:List T} (h:RL w a c L) (hb:Below w.heap.size w w'):RL w' a c L:=Rd.below h hb
theorem jV {L:List T} {i:Nat} (h:i<L.length):lf L i=L[i]:=by unfold lf;rw[List.getD_eq_getElem?_getD,List.getElem?_eq_getElem h];rfl
theorem GL {w:World} {a:Option Addr} {n cap:Nat} {f:Nat→T} (h:Rd w a n cap f):∃L:List T,n=L.length∧RL w a cap L:=by
 refine⟨(List.range n).map f,by simp,?_⟩;have e:((List.range n).map f).length=n:=by simp
 have hf:∀i,i<n→lf ((List.range n).map f) i=f i:=fun i hi=>by rw[jV (by simpa using hi)];simp
 unfold RL;rw[e];refine⟨h.1,h.2.1,?_⟩;rcases h.2.2 with h0|⟨b,off,he,hlt,hc⟩
 ·exact .inl h0
 ·exact .inr ⟨b,off,he,hlt,fun i hi=>by rw[hf i hi];exact hc i hi⟩
def cF (L:List T):Bool:=aO L.length (lf L)
theorem aD {L:List T} (h:cF L=true):L.length≤400∧aL L:=by
 have hF:=fW h;have hl:L.length≤400:=by unfold cF at h;simp only[aO,decide_eq_true_eq]at h;exact h.1
 refine⟨hl,List.pairwise_iff_getElem.2 (fun i j hi hj hij=>?_),fun t ht=>?_⟩
 ·have:=hF.1 i j hij hj
  rwa[jV hi,jV hj]at this
 ·obtain⟨i,hi,rfl⟩:=List.mem_iff_getElem.1 ht;have:=hF.2 i hi
  rwa[jV hi]at this
theorem gO {L:List T} (hl:L.length≤400) (h:aL L):cF L=true:=by
 unfold cF aO;rw[decide_eq_true_eq];refine⟨hl,fun i hi=>?_⟩;have h1:=h.2 (L[i]) (List.getElem_mem hi)
 simp only[lH,Bool.and_eq_true,Bool.or_eq_true,decide_eq_true_eq];rw[jV hi];refine⟨⟨h1.2,h1.1⟩,?_⟩;by_cases h0:i=0
 ·exact .inl h0
 ·refine .inr ?_;have hi1:i-1<L.length:=by omega
  rw[jV hi1];exact(vW (h.2 _ (List.getElem_mem hi1)).1 h1.1).2 ((List.pairwise_iff_getElem.1 h.1) (i-1) i hi1 hi (by omega))
theorem oH:cF []=true:=gO (by simp) eY
theorem rA (L K:List T):(dG L K).length≤L.length+K.length:=by have:=AC (lf L) L.length (lf K) K.length 0 0;simpa[dG]using this
theorem uX (m:M):aM [] m=0:=rfl
def iS (c:Int) (L:List T):List T:=IH c (lf L) L.length
theorem eG (c:Int) (L:List T):(iS c L).length=L.length:=II _ _ _
theorem qK (c:Int) (L:List T):iS c L=L.map (fun t=>⟨c*t.c%101,t.m⟩):=by
 refine List.ext_getElem (by simp[eG]) (fun i h1 h2=>?_);have hi:i<L.length:=by rw[eG]at h1;exact h1
 rw[←jV h1,iS,BK _ _ _ _ hi,jV hi];simp
theorem gR {c:Int} {L:List T} (c1:1≤c) (c2:c≤100) (h:aL L):aL (iS c L):=by
 rw[qK];refine⟨by rw[List.pairwise_map];exact h.1,fun t ht=>?_⟩;obtain⟨s,hs,rfl⟩:=List.mem_map.1 ht;have hr:=h.2 s hs
 have hne:=QM (a:=c) (b:=s.c) (by omega) (by omega) (by omega) (by omega);rw[jO (by omega) c2 (by omega) hr.2.2]at hne;exact⟨hr.1,by show 1≤c*s.c%101;omega,by show c*s.c%101≤100;omega⟩
theorem MT (c:Int) (m:M):∀L:List T,aM (iS c L) m=c*aM L m%101:=by
 intro L;rw[qK];induction L with
 |nil=>simp[aM]
 |cons t r ih=>
  rw[List.map_cons,aM,aM];split
  ·rfl
  ·exact ih
def Oq (c:Int) (L:List T):List T:=fG c (lf L) L.length
theorem Ck {c:Int} {L:List T} (c1:1≤c) (c2:c≤100) (h:cF L=true):Oq c L=iS c L:=if_pos ⟨by omega,h,by omega⟩
def dC (L K:List T):List T:=dG L (iS 100 K)
def wK (L K:List T):List T×Bool:=kZ (lf L) L.length (lf K) K.length
theorem SY (L K:List T):iJ (lf L) L.length (yX (lf K) K.length) K.length 0 0=dC L K:=by unfold dC dG;rw[eG];rfl
theorem IQ {L K:List T} (hL:cF L=true) (hK:cF K=true) (h:(dC L K).length≤400):wK L K=(dC L K,true):=by unfold wK kZ;rw[SY];exact if_pos ⟨hL,hK,h⟩
theorem xX (L K:List T):wK L K=([],false)∨(cF L=true∧cF K=true∧(dC L K).length≤400∧wK L K=(dC L K,true)):=by
 by_cases h:cF L=true∧cF K=true∧(dC L K).length≤400
 ·exact .inr ⟨h.1,h.2.1,h.2.2,IQ h.1 h.2.1 h.2.2⟩
 ·refine .inl ?_;unfold wK kZ;rw[SY];exact if_neg h
theorem CW (L K:List T):(dC L K).length≤L.length+K.length:=by have:=rA L (iS 100 K);rw[eG]at this;exact this
theorem cO {L K:List T} (hL:aL L) (hK:aL K):aL (dC L K)∧∀m,aM (dC L K) m=(aM L m+100*aM K m%101)%101:=by
 have h:=cW hL (gR (c:=100) (by omega) (by omega) hK);refine⟨h.1,fun m=>?_⟩;show aM (dG L (iS 100 K)) m=_
 rw[h.2,MT]
theorem sub_self {L:List T} (hL:aL L):dC L L=[]:=by
 have h1:=cO hL hL;refine mM h1.1 eY (fun m _=>?_);have r1:=cC hL m
 rw[h1.2,uX];omega
theorem yR {L K:List T} (hL:aL L) (hK:aL K):dC L K=[]↔L=K:=by
 constructor
 ·intro h;have h1:=cO hL hK
  refine mM hL hK (fun m _=>?_);have h2:=h1.2 m
  rw[h,uX]at h2;have r1:=cC hL m
  have r2:=cC hK m;omega
 ·intro h;rw[h];exact sub_self hK
def sq (L K:List T):Bool:=aR L.length (lf L) K.length (lf K)
theorem wH (L:List T):sq L L=true:=IV _ _
theorem CK {L K:List T}:sq L K=true↔L=K:=by
 constructor
 ·intro ht;simp only[sq,aR,decide_eq_true_eq]at ht;refine List.ext_getElem ht.1 (fun i h1 h2=>?_);have:=ht.2 i h1
  rw[jV h1,jV h2]at this;exact T.eqB_iff.1 this
 ·intro h;rw[h];exact wH K
abbrev Fq:=Fin 101
def zz (a:Int):Fq:=Fin.ofNat 101 (a%101).toNat
theorem lU (a:Int):zz (a%101)=zz a:=by unfold zz;rw[Int.emod_emod_of_dvd _ (Int.dvd_refl 101)]
theorem PY (a b:Int):zz (a+b)=zz a+zz b:=by unfold zz;apply Fin.ext;simp[Fin.val_add];omega
theorem Dm {a b:Int} (ha:0≤a∧a≤100) (hb:0≤b∧b≤100) (h:zz a=zz b):a=b:=by unfold zz at h;have:=congrArg Fin.val h;simp at this;omega
theorem oW (a b:Int):zz (a*b)=zz a*zz b:=by
 unfold zz;apply Fin.ext;simp[Fin.val_mul];have h1:=Int.mul_emod a b 101
 have h2:((a%101).toNat:Int)=a%101:=by omega
 have h3:((b%101).toNat:Int)=b%101:=by omega
 have h4:(((a%101).toNat*(b%101).toNat%101:Nat):Int)=(a%101)*(b%101)%101:=by rw[Int.natCast_emod,Int.natCast_mul,h2,h3];rfl
 omega
theorem TH:zz 0=0:=rfl
theorem sA {a:Int} (h1:1≤a) (h2:a≤100):zz a≠0:=fun h=>by
 have:=Dm (a:=a) (b:=0) ⟨by omega,h2⟩ ⟨by omega,by omega⟩ h;omega
def su {α:Type}:List α→(α→Fq)→Fq
 |[],_=>0
 |t::r,f=>f t+su r f
theorem CU {α:Type} (f g:α→Fq):∀L:List α,su L (fun t=>f t+g t)=su L f+su L g
 |[]=>by simp[su]
 |t::r=>by rw[su,su,su,CU f g r];grind
theorem PV {α:Type} (c:Fq) (f:α→Fq):∀L:List α,su L (fun t=>c*f t)=c*su L f
 |[]=>by show(0:Fq)=c*0;grind
 |t::r=>by rw[su,su,PV c f r];grind
theorem qL {α:Type} (f:α→Fq):∀L:List α,(∀t∈L,f t=0)→su L f=0
 |[],_=>rfl
 |t::r,h=>by rw[su,qL f r (fun s hs=>h s (List.mem_cons_of_mem _ hs)),h t (List.mem_cons_self ..)];rfl
theorem fH {α:Type} {f g:α→Fq}:∀{L:List α},(∀t∈L,f t=g t)→su L f=su L g
 |[],_=>rfl
 |t::r,h=>by rw[su,su,fH (L:=r) (fun s hs=>h s (List.mem_cons_of_mem _ hs)),h t (List.mem_cons_self ..)]
theorem mT {α:Type} (f:α→Fq):∀L K:List α,su (L++K) f=su L f+su K f
 |[],K=>by simp[su]
 |t::r,K=>by rw[List.cons_append,su,su,mT f r K];grind
theorem xW {α β:Type} (h:α→β) (f:β→Fq):∀L:List α,su (L.map h) f=su L (fun t=>f (h t))
 |[]=>rfl
 |t::r=>by rw[List.map_cons,su,su,xW h f r]
theorem IP {α β:Type} (h:α→List β) (f:β→Fq):∀L:List α,su (L.flatMap h) f=su L (fun t=>su (h t) f)
 |[]=>rfl
 |t::r=>by rw[List.flatMap_cons,mT,su,IP h f r]
abbrev Vq:=Nat→Nat→Fq
def va (u v:Vq):Vq:=fun n k=>u n k+v n k
def vs (c:Fq) (u:Vq):Vq:=fun n k=>c*u n k
structure Lq where
 f:Vq→Vq
 add:∀u v,f (va u v)=va (f u) (f v)
 smul:∀c u,f (vs c u)=vs c (f u)
theorem Lq.ext {A B:Lq} (h:∀u n k,A.f u n k=B.f u n k):A=B:=by have:A.f=B.f:=funext fun u=>funext fun n=>funext fun k=>h u n k;cases A;cases B;cases this;rfl
def v0:Vq:=fun _ _=>0
theorem Lq.zero (A:Lq):A.f v0=v0:=by
 have h:=A.smul 0 v0;have e:vs 0 v0=v0:=by funext n k;simp[vs,v0]
 rw[e]at h;rw[h];funext n k;show 0*_=(0:Fq);grind
namespace Lq
def mul (A B:Lq):Lq:=⟨fun u=>B.f (A.f u),fun u v=>by rw[A.add,B.add],fun c u=>by rw[A.smul,B.smul]⟩
def sum (A B:Lq):Lq:=⟨fun u=>va (A.f u) (B.f u),fun u v=>by rw[A.add,B.add];funext n k;simp only[va];grind,fun c u=>by rw[A.smul,B.smul];funext n k;simp only[va,vs];grind⟩
def sc (c:Fq) (A:Lq):Lq:=⟨fun u=>vs c (A.f u),fun u v=>by rw[A.add];funext n k;simp only[va,vs];grind,fun d u=>by rw[A.smul];funext n k;simp only[vs];grind⟩
def one:Lq:=⟨fun u=>u,fun _ _=>rfl,fun _ _=>rfl⟩
def nil:Lq:=⟨fun _=>v0,fun u v=>by funext n k;simp[va,v0],fun c u=>by funext n k;show(0:Fq)=c*0;grind⟩
def pow (A:Lq):Nat→Lq
 |0=>one
 |n+1=>mul (pow A n) A
theorem mul_assoc (A B C:Lq):mul (mul A B) C=mul A (mul B C):=rfl
theorem one_mul (A:Lq):mul one A=A:=rfl
theorem mul_one (A:Lq):mul A one=A:=rfl
theorem sum_mul (A B C:Lq):mul (sum A B) C=sum (mul A C) (mul B C):=Lq.ext fun u n k=>by show C.f (va _ _) n k=_;rw[C.add];rfl
theorem mul_sum (A B C:Lq):mul C (sum A B)=sum (mul C A) (mul C B):=rfl
theorem sc_mul (c:Fq) (A B:Lq):mul (sc c A) B=sc c (mul A B):=Lq.ext fun u n k=>by show B.f (vs _ _) n k=_;rw[B.smul];rfl
theorem mul_sc (c:Fq) (A B:Lq):mul A (sc c B)=sc c (mul A B):=rfl
theorem sc_sc (c d:Fq) (A:Lq):sc c (sc d A)=sc (c*d) A:=Lq.ext fun u n k=>by show c*(d*_)=c*d*_;grind
theorem sc_one (A:Lq):sc 1 A=A:=Lq.ext fun u n k=>by show 1*_=_;grind
theorem sc_zero (A:Lq):sc 0 A=nil:=Lq.ext fun u n k=>by show 0*_=(0:Fq);grind
theorem sc_sum (c:Fq) (A B:Lq):sc c (sum A B)=sum (sc c A) (sc c B):=Lq.ext fun u n k=>by show c*(_+_)=c*_+c*_;grind
theorem sc_add (c d:Fq) (A:Lq):sc (c+d) A=sum (sc c A) (sc d A):=Lq.ext fun u n k=>by show(c+d)*_=c*_+d*_;grind
theorem sum_comm (A B:Lq):sum A B=sum B A:=Lq.ext fun u n k=>by show _+_=_+_;grind
theorem sum_assoc (A B C:Lq):sum (sum A B) C=sum A (sum B C):=Lq.ext fun u n k=>by show _+_+_=_+(_+_);grind
theorem sum_nil (A:Lq):sum A nil=A:=Lq.ext fun u n k=>by show _+(0:Fq)=_;grind
theorem nil_mul (A:Lq):mul nil A=nil:=Lq.ext fun u n k=>by show A.f v0 n k=_;rw[A.zero];rfl
theorem mul_nil (A:Lq):mul A nil=nil:=rfl
theorem pow_succ' (A:Lq):∀n,pow A (n+1)=mul A (pow A n)
 |0=>rfl
 |n+1=>by show mul (pow A (n+1)) A=mul A (mul (pow A n) A);rw[pow_succ' A n,mul_assoc]
theorem pow_add (A:Lq) (n:Nat):∀m,pow A (n+m)=mul (pow A n) (pow A m)
 |0=>rfl
 |m+1=>by rw[←Nat.add_assoc,pow,pow_add A n m,pow,mul_assoc]
def Com (A B:Lq):Prop:=mul A B=mul B A
theorem Com.symm {A B:Lq} (h:Com A B):Com B A:=Eq.symm h
theorem Com.one (A:Lq):Com A Lq.one:=rfl
theorem Com.mul {A B C:Lq} (h1:Com A B) (h2:Com A C):Com A (Lq.mul B C):=by unfold Com at *;rw[←mul_assoc,h1,mul_assoc,h2,mul_assoc]
theorem Com.pow {A B:Lq} (h:Com A B):∀n,Com A (Lq.pow B n)
 |0=>Com.one A
 |n+1=>(h.pow n).mul h
theorem Com.pows {A B:Lq} (h:Com A B) (m n:Nat):Com (Lq.pow A m) (Lq.pow B n):=((h.pow n).symm.pow m).symm
def sumN (f:Nat→Lq):Nat→Lq
 |0=>nil
 |n+1=>sum (sumN f n) (f n)
theorem sumN_sum (f g:Nat→Lq):∀n,sumN (fun i=>sum (f i) (g i)) n=sum (sumN f n) (sumN g n)
 |0=>(sum_nil nil).symm
 |n+1=>by rw[sumN,sumN,sumN,sumN_sum f g n];exact Lq.ext fun u n k=>by show _+_+(_+_)=_+_+(_+_);grind
theorem mul_sumN (A:Lq) (f:Nat→Lq):∀n,mul A (sumN f n)=sumN (fun i=>mul A (f i)) n
 |0=>rfl
 |n+1=>by rw[sumN,mul_sum,mul_sumN A f n];rfl
theorem sumN_congr {f g:Nat→Lq}:∀{n},(∀i,i<n→f i=g i)→sumN f n=sumN g n
 |0,_=>rfl
 |n+1,h=>by rw[sumN,sumN,sumN_congr (n:=n) (fun i hi=>h i (by omega)),h n (by omega)]
theorem sumN_head (f:Nat→Lq):∀n,sumN f (n+1)=sum (f 0) (sumN (fun i=>f (i+1)) n)
 |0=>by rw[sumN,sumN,sumN,sum_comm]
 |n+1=>by rw[sumN,sumN_head f n,sumN,sum_assoc]
theorem sumN_cut {f:Nat→Lq} {m n:Nat} (h:m≤n) (h0:∀i,m≤i→f i=nil):sumN f n=sumN f m:=by
 induction n with
 |zero=>rw[show m=0 by omega]
 |succ n ih=>
  by_cases e:m=n+1
  ·rw[e]
  ·rw[sumN,h0 n (by omega),sum_nil,ih (by omega)]
end Lq
def Ia:Nat→Nat→Nat
 |_,0=>1
 |0,_+1=>0
 |n+1,k+1=>Ia n (k+1)+Ia n k
def QO (c:Nat):Nat→Nat
 |0=>1
 |i+1=>QO c i*(c-i)
theorem uV:∀n k,n<k→Ia n k=0
 |0,k+1,_=>by rw[Ia]
 |n+1,k+1,h=>by rw[Ia,uV n (k+1) (by omega),uV n k (by omega)]
theorem AH (n:Nat):Ia n 0=1:=by cases n<;>rfl
theorem vI (c:Nat):∀i,c<i→QO c i=0
 |i+1,h=>by
  rw[QO];by_cases e:c=i
  ·rw[e];simp
  ·rw[vI c i (by omega)];simp
def nf (n:Nat):Fq:=Fin.ofNat 101 n
theorem xN (a b:Nat):nf (a+b)=nf a+nf b:=by unfold nf;apply Fin.ext;simp[Fin.val_add]
theorem PF (a b:Nat):nf (a*b)=nf a*nf b:=by unfold nf;apply Fin.ext;simp[Fin.val_mul]
theorem qD:nf 1=1:=rfl
theorem jP:nf 0=0:=rfl
def Ll (x d:Lq):Prop:=Lq.mul d x=Lq.sum (Lq.mul x d) Lq.one
theorem TE {x d:Lq} (h:Ll x d):∀c,Lq.mul d (Lq.pow x c)=Lq.sum (Lq.mul (Lq.pow x c) d) (Lq.sc (nf c) (Lq.pow x (c-1)))
 |0=>by rw[jP,Lq.sc_zero,Lq.sum_nil];rfl
 |c+1=>by
  rw[Lq.pow,←Lq.mul_assoc,TE h c,Lq.sum_mul,Lq.mul_assoc,h,Lq.mul_sum,Lq.mul_one,Lq.sc_mul,←Lq.mul_assoc,Lq.sum_assoc,xN,Lq.sc_add,qD,Lq.sc_one];congr 1;show Lq.sum (Lq.pow x c) _=Lq.sum _ (Lq.pow x (c+1-1))
  rw[Lq.sum_comm];congr 1;cases c with
  |zero=>rw[jP,Lq.sc_zero,Lq.sc_zero]
  |succ c=>rfl
def wN (b c i:Nat):Nat:=Ia b i*QO c i
theorem FM {x d:Lq} (h:Ll x d) (c:Nat):∀b,Lq.mul (Lq.pow d b) (Lq.pow x c)=Lq.sumN (fun i=>Lq.sc (nf (wN b c i)) (Lq.mul (Lq.pow x (c-i)) (Lq.pow d (b-i)))) (b+1)
 |0=>by
  show Lq.pow x c=Lq.sum Lq.nil (Lq.sc (nf (wN 0 c 0)) (Lq.mul (Lq.pow x (c-0)) Lq.one));rw[Lq.sum_comm,Lq.sum_nil];show _=Lq.sc (nf 1) _
  rw[qD,Lq.sc_one];rfl
 |b+1=>by
  rw[Lq.pow_succ',Lq.mul_assoc,FM h c b,Lq.mul_sumN];have e1:Lq.sumN (fun i=>Lq.mul d (Lq.sc (nf (wN b c i)) (Lq.mul (Lq.pow x (c-i)) (Lq.pow d (b-i))))) (b+1)=Lq.sumN (fun i=>Lq.sum (Lq.sc (nf (wN b c i)) (Lq.mul (Lq.pow x (c-i)) (Lq.pow d (b+1-i)))) (Lq.sc (nf (wN b c i*(c-i))) (Lq.mul (Lq.pow x (c-(i+1))) (Lq.pow d (b-i))))) (b+1):=by refine Lq.sumN_congr (fun i hi=>?_);rw[Lq.mul_sc,←Lq.mul_assoc,TE h,Lq.sum_mul,Lq.sc_sum,Lq.mul_assoc,←Lq.pow_succ',Lq.sc_mul,Lq.sc_sc,PF,show b-i+1=b+1-i by omega,show c-i-1=c-(i+1) by omega]
  rw[e1,Lq.sumN_sum];rw[Lq.sumN_head (fun i=>Lq.sc (nf (wN (b+1) c i)) (Lq.mul (Lq.pow x (c-i)) (Lq.pow d (b+1-i))))];have e2:Lq.sumN (fun i=>Lq.sc (nf (wN (b+1) c (i+1))) (Lq.mul (Lq.pow x (c-(i+1))) (Lq.pow d (b+1-(i+1))))) (b+1)=Lq.sum (Lq.sumN (fun i=>Lq.sc (nf (wN b c (i+1))) (Lq.mul (Lq.pow x (c-(i+1))) (Lq.pow d (b+1-(i+1))))) (b+1)) (Lq.sumN (fun i=>Lq.sc (nf (wN b c i*(c-i))) (Lq.mul (Lq.pow x (c-(i+1))) (Lq.pow d (b-i)))) (b+1)):=by
   rw[←Lq.sumN_sum];refine Lq.sumN_congr (fun i hi=>?_);have:wN (b+1) c (i+1)=wN b c (i+1)+wN b c i*(c-i):=by unfold wN;rw[Ia,QO,Nat.add_mul,Nat.mul_assoc]
   rw[this,xN,Lq.sc_add,show b+1-(i+1)=b-i by omega]
  rw[e2,←Lq.sum_assoc];congr 1;rw[show wN (b+1) c 0=wN b c 0 by simp[wN,AH],←Lq.sumN_head (fun i=>Lq.sc (nf (wN b c i)) (Lq.mul (Lq.pow x (c-i)) (Lq.pow d (b+1-i)))),Lq.sumN.eq_2 _ (b+1)];have:wN b c (b+1)=0:=by unfold wN;rw[uV b (b+1) (by omega),Nat.zero_mul]
  rw[this,jP,Lq.sc_zero,Lq.sum_nil]
open Go.RowKit
set_option linter.unusedVariables false
def Iu (n:Nat):M:=⟨((n / 4096:Nat):Int),((n / 256%16:Nat):Int),((n / 16%16:Nat):Int),((n%16:Nat):Int)⟩
def box:List M:=(List.range 65536).map Iu
theorem FW {m:M} (h:m.ok=true):m∈box:=by obtain⟨x1,x2,y1,y2,d1,d2,e1,e2⟩:=M.ok_iff.1 h;refine List.mem_map.2 ⟨m.x.toNat*4096+m.y.toNat*256+m.d.toNat*16+m.e.toNat,List.mem_range.2 (by omega),?_⟩;cases m;simp only[Iu,M.mk.injEq]at *;refine⟨by omega,by omega,by omega,by omega⟩
theorem xA:box.Nodup:=by unfold box;rw[List.Nodup,List.pairwise_map];refine(List.nodup_range (n:=65536)).imp (fun{a b} hab e=>hab ?_);simp only[Iu,M.mk.injEq]at e;omega
theorem dQ {a b:M}:eF a b=true↔a=b:=by cases a;cases b;simp[eF]
theorem sS (m:M) (v:Fq):∀S:List M,S.Nodup→m∈S→su S (fun x=>if eF m x=true then v else 0)=v
 |[],_,h=>by cases h
 |t::r,hn,h=>by
  rw[List.nodup_cons]at hn;rw[su];by_cases e:eF m t=true
  ·rw[if_pos e,qL _ r (fun s hs=>if_neg (fun e2=>hn.1 (by rw[←dQ.1 e,dQ.1 e2];exact hs)))]
   grind
  ·rw[if_neg e,sS m v r hn.2 (by
    rcases List.mem_cons.1 h with h|h
    ·exact absurd (dQ.2 h) e
    ·exact h)]
   grind
def mN (φ:M→Fq) (L:List T):Fq:=su L (fun t=>zz t.c*φ t.m)
theorem GK (φ:M→Fq):mN φ []=0:=rfl
theorem qB (φ:M→Fq):∀{L:List T},aL L→mN φ L=su box (fun m=>zz (aM L m)*φ m)
 |[],_=>by
  rw[GK,qL];intro t _;show zz 0*φ t=0
  rw[TH];grind
 |t::r,h=>by
  have hr:=qB φ h.tail;have ht:=h.2 t (List.mem_cons_self ..)
  have h0:aM r t.m=0:=mK (List.pairwise_cons.1 h.1).1;have e:su box (fun m=>zz (aM (t::r) m)*φ m)=su box (fun m=>(if eF t.m m=true then zz t.c*φ t.m else 0)+zz (aM r m)*φ m):=by
   refine fH (fun m _=>?_);rw[aM];by_cases e:eF t.m m=true
   ·rw[if_pos e,if_pos e,←dQ.1 e,h0,TH];grind
   ·rw[if_neg e,if_neg e];grind
  rw[e,CU,sS t.m _ box xA (FW ht.1),←hr];rfl
theorem QZ (φ:M→Fq) {L K:List T} (hL:aL L) (hK:aL K):mN φ (dG L K)=mN φ L+mN φ K:=by have h:=cW hL hK;rw[qB φ h.1,qB φ hL,qB φ hK,←CU];refine fH (fun m _=>?_);rw[h.2,lU,PY];grind
theorem Jt (φ:M→Fq) (c:Int) (L:List T):mN φ (iS c L)=zz c*mN φ L:=by
 unfold mN;rw[qK,xW,←PV];refine fH (fun t _=>?_);show zz (c*t.c%101)*φ t.m=_
 rw[lU,oW];grind
theorem Fs (φ:M→Fq) {L:List T} (hL:aL L) {c:Int} {m:M} (hm:m.ok=true) (c0:0≤c) (c1:c≤100):mN φ (lJ c m L)=mN φ L+zz c*φ m:=by
 have h:=uF hL hm c0 c1;have e:su box (fun x=>zz (aM (lJ c m L) x)*φ x)=su box (fun x=>(if eF m x=true then zz c*φ m else 0)+zz (aM L x)*φ x):=by
  refine fH (fun x _=>?_);rw[h.2,nN];by_cases e:x=m
  ·rw[if_pos (fZ.2 e),if_pos (dQ.2 e.symm),lU,PY,e];grind
  ·rw[if_neg (fun q=>e (fZ.1 q)),if_neg (fun q=>e (dQ.1 q).symm)];grind
 rw[qB φ h.1,e,CU,sS m _ box xA (FW hm),qB φ hL]
 grind
theorem uA (φ:M→Fq):∀(xs:List T) {L:List T},Lk xs→aL L→mN φ (gP xs L)=mN φ L+mN φ xs
 |[],L,_,hL=>by show mN φ L=mN φ L+0;grind
 |t::r,L,hx,hL=>by
  have h1:=hx t (List.mem_cons_self ..);show mN φ (gP r (lJ t.c t.m L))=_
  rw[uA φ r (fun s hs=>hx s (List.mem_cons_of_mem _ hs)) (uF hL h1.1 h1.2.1 h1.2.2).1,Fs φ hL h1.1 h1.2.1 h1.2.2];show _=mN φ L+(zz t.c*φ t.m+mN φ r)
  grind
theorem Fu (φ ψ:M→Fq) (L:List T):mN (fun m=>φ m+ψ m) L=mN φ L+mN ψ L:=by unfold mN;rw[←CU];exact fH (fun t _=>by grind)
theorem Fp (c:Fq) (φ:M→Fq) (L:List T):mN (fun m=>c*φ m) L=c*mN φ L:=by unfold mN;rw[←PV];exact fH (fun t _=>by grind)
structure wS where
 x:Lq
 y:Lq
 d:Lq
 e:Lq
 wx:Ll x d
 wy:Ll y e
 xy:Lq.Com x y
 xe:Lq.Com x e
 dy:Lq.Com d y
 de:Lq.Com d e
def mo (g:wS) (m:M):Lq:=Lq.mul (Lq.mul (Lq.pow g.x m.x.toNat) (Lq.pow g.y m.y.toNat)) (Lq.mul (Lq.pow g.d m.d.toNat) (Lq.pow g.e m.e.toNat))
def Rp (g:wS) (L:List T):Lq:=⟨fun u n k=>mN (fun m=>(mo g m).f u n k) L,fun u v=>by
 funext n k;show mN (fun m=>(mo g m).f (va u v) n k) L=_
 rw[show(fun m=>(mo g m).f (va u v) n k)=(fun m=>(mo g m).f u n k+(mo g m).f v n k)from funext fun m=>by rw[(mo g m).add];rfl,Fu];rfl,fun c u=>by
 funext n k;show mN (fun m=>(mo g m).f (vs c u) n k) L=_
 rw[show(fun m=>(mo g m).f (vs c u) n k)=(fun m=>c*(mo g m).f u n k)from funext fun m=>by rw[(mo g m).smul];rfl,Fp]
 rfl⟩
theorem pT (g:wS):Rp g []=Lq.nil:=rfl
theorem wY (g:wS) {L K:List T} (hL:aL L) (hK:aL K):Rp g (dG L K)=Lq.sum (Rp g L) (Rp g K):=Lq.ext fun u n k=>QZ (fun m=>(mo g m).f u n k) hL hK
theorem yC (g:wS) (c:Int) (L:List T):Rp g (iS c L)=Lq.sc (zz c) (Rp g L):=Lq.ext fun u n k=>Jt (fun m=>(mo g m).f u n k) c L
theorem wZ (g:wS) {L K:List T} (hL:aL L) (hK:aL K):Rp g (dC L K)=Lq.sum (Rp g L) (Lq.sc (zz 100) (Rp g K)):=by unfold dC;rw[wY g hL (gR (by omega) (by omega) hK),yC]
theorem zZ (g:wS) (t:T):Rp g [t]=Lq.sc (zz t.c) (mo g t.m):=Lq.ext fun u n k=>by
 show zz t.c*_+0=zz t.c*_
 grind
theorem IU (f:Nat→Lq) (u:Vq) (p q:Nat):∀n,(Lq.sumN f n).f u p q=su (List.range n) (fun i=>(f i).f u p q)
 |0=>rfl
 |n+1=>by
  rw[List.range_succ,mT,←IU f u p q n];show _+_=_+(_+0)
  grind
theorem Kq {b c i:Nat} (h:min b c<i):wN b c i=0:=by
 unfold wN;by_cases hb:b<i
 ·rw[uV b i hb,Nat.zero_mul]
 ·rw[vI c i (by omega),Nat.mul_zero]
theorem sM {x d:Lq} (h:Ll x d) (b c:Nat):Lq.mul (Lq.pow d b) (Lq.pow x c)=Lq.sumN (fun i=>Lq.sc (nf (wN b c i)) (Lq.mul (Lq.pow x (c-i)) (Lq.pow d (b-i)))) (min b c+1):=by rw[FM h];refine Lq.sumN_cut (by omega) (fun i hi=>?_);rw[Kq (by omega),jP,Lq.sc_zero]
open Go.RowKit Go.Sort
structure Gr (w u:World):Prop where
 below:Below w.heap.size w u
 drawn:w.drawn≤u.drawn
theorem Gr.refl (w:World):Gr w w:=⟨bG _ _,Nat.le_refl _⟩
theorem Gr.trans {a b c:World} (h:Gr a b) (k:Gr b c):Gr a c:=⟨h.below.trans (k.below.mono h.below.size),jQ h.drawn k.drawn⟩
theorem Gr.alloc (w:World) (o:Obj):Gr w (w.alloc o):=⟨aC w o,by simp⟩
theorem Gr.drew (w:World):Gr w w.drew:=⟨(bG _ _).drew,by simp⟩
theorem Gr.form {w u:World} (h:Gr w u):∃q os,u=grow (w.drewN q) os:=by
 refine⟨u.drawn-w.drawn,u.heap.extract w.heap.size u.heap.size,?_⟩;obtain⟨⟨h1,h2,h3,h4,h5⟩,h6⟩:=h;cases u with
 |mk heap tape drawn os output=>
  simp only at h1 h2 h3 h4 h5 h6;subst h1 h2 h3;have hh:w.heap++heap.extract w.heap.size heap.size=heap:=by
   apply Array.ext_getElem?;intro i;by_cases hi:i<w.heap.size
   ·rw[Array.getElem?_append_left hi,h5 i hi]
   ·rw[Array.getElem?_append_right (by omega),Array.getElem?_extract];split
    ·congr 1;omega
    ·exact(Array.getElem?_eq_none (by omega)).symm
  have hd:w.drawn+(drawn-w.drawn)=drawn:=by omega
  simp only[grow,World.drewN];rw[hh,hd]
def mW (w:World):Type:=Subtype (fun u:World=>Gr w u)
theorem mW.there (w:World):Nonempty (mW w):=⟨⟨w,Gr.refl _⟩⟩
theorem rZ {P:Program} {id:Nat} {Q:Exit→Act→World→Prop} {a:Act} {w:World} {l:List Oper} (hm:P.follows .mixedOrders=true) (hB:Region.lexB .any l.toArray=true) (h:wpQuiet P l.toArray (fun u=>∃x:mW w,u=x.1) (fun a'=>∀w',(∃x:mW w,w'=x.1)→Q .normal a' w') l a):(Code.region id l.toArray true).wp P Q a w:=
 wp_region_quiet (C:=fun u=>∃x:mW w,u=x.1) hm hB ⟨⟨_,Gr.drew _⟩,rfl⟩ (by simpa using h)
theorem UJ {P:Program} {f:FuncId} {args:Array Value} {w:World} {x:mW w} {v:Value} (h:Calls P f args x.1 fun e w'=>e= .returned v∧w'=x.1):Calls P f args x.1 fun e w''=>e= .returned v∧∃y:mW w,w''=y.1:=
 h.mono fun _ _ ⟨he,hm⟩=>⟨he,x,hm⟩
theorem pW {P:Program} {f:FuncId} {args:Array Value} {w:World} {x:mW w} {v:Value} (h:Calls P f args x.1 fun e w'=>e= .returned v∧Gr x.1 w'):Calls P f args x.1 fun e w''=>e= .returned v∧∃y:mW w,w''=y.1:=
 h.mono fun _ w' ⟨he,hm⟩=>⟨he,⟨w',x.2.trans hm⟩,rfl⟩
theorem vD {w:World} {t:TypeId} (cs:Array Value) (k:Nat) (v:Value) (h:cs[k]? =some v):∀u:mW (w.alloc (.cells cs t)),u.1.cell? ⟨w.heap.size,k,none⟩=some v:=fun u=>by
 have:=mD (w:=w) (t:=t) cs k v h ⟨u.1,u.2.below⟩;exact this
theorem Ek (x y d e:Int) (w:World) (h:M.ok ⟨x,y,d,e⟩=true):Calls Tryz.prog 136 #[.agg #[.int .i64 x,.int .i64 y,.int .i64 d,.int .i64 e]] w fun r w'=>r= .returned (.int .i64 (x+y+d+e))∧Gr w w':=by obtain⟨x1,x2,y1,y2,d1,d2,e1,e2⟩:=M.ok_iff.1 h;simp only at x1 x2 y1 y2 d1 d2 e1 e2;clear h;go_enter Tryz.func136,Tryz.ntmps136;go_wp2;go_ret;exact⟨rfl,Gr.alloc w _⟩
theorem Bj (x y d e:Int) (w:World) (h:M.ok ⟨x,y,d,e⟩=true):Calls Tryz.prog 122 #[.agg #[.int .i64 x,.int .i64 y,.int .i64 d,.int .i64 e]] w fun r w'=>r= .returned (.int .i64 (iB ⟨x,y,d,e⟩))∧Gr w w':=by obtain⟨x1,x2,y1,y2,d1,d2,e1,e2⟩:=M.ok_iff.1 h;simp only at x1 x2 y1 y2 d1 d2 e1 e2;clear h;simp only[iB];go_enter Tryz.func122,Tryz.ntmps122;go_wp2;go_ret;exact⟨rfl,Gr.alloc w _⟩
theorem MB (x y d e:Int) (w:World) (h:M.ok ⟨x,y,d,e⟩=true):Calls Tryz.prog 93 #[.agg #[.int .i64 x,.int .i64 y,.int .i64 d,.int .i64 e]] w fun r w'=>r= .returned (.int .i64 (fI ⟨x,y,d,e⟩))∧Gr w w':=by
 obtain⟨x1,x2,y1,y2,d1,d2,e1,e2⟩:=M.ok_iff.1 h;simp only at x1 x2 y1 y2 d1 d2 e1 e2;have HK:=aA h
 have k1:0≤iB ⟨x,y,d,e⟩:=by simp only[iB];omega
 have k2:iB ⟨x,y,d,e⟩≤65535:=by simp only[iB];omega
 have r1:fI ⟨x,y,d,e⟩=(x+y+d+e)*65536+iB ⟨x,y,d,e⟩:=rfl;rw[r1];clear h r1;go_enter Tryz.func93,Tryz.ntmps93;go_wp2_with fail;have B1:=aA (Gr.alloc w (.cells #[.int .i64 x,.int .i64 y,.int .i64 d,.int .i64 e] 84))
 have ne:=mW.there (w.alloc (.cells #[.int .i64 x,.int .i64 y,.int .i64 d,.int .i64 e] 84));have s0:=vD (w:=w) (t:=84) #[.int .i64 x,.int .i64 y,.int .i64 d,.int .i64 e] 0 _ rfl
 have s1:=vD (w:=w) (t:=84) #[.int .i64 x,.int .i64 y,.int .i64 d,.int .i64 e] 1 _ rfl;have s2:=vD (w:=w) (t:=84) #[.int .i64 x,.int .i64 y,.int .i64 d,.int .i64 e] 2 _ rfl
 have s3:=vD (w:=w) (t:=84) #[.int .i64 x,.int .i64 y,.int .i64 d,.int .i64 e] 3 _ rfl;refine rZ (by kernel_rfl) (by kernel_rfl) ?_;repeat(go_big_quiet_step (first|(go_at_call 136;exact pW (Ek _ _ _ _ _ HK.out))|(go_at_call 122;exact pW (Bj _ _ _ _ _ HK.out))))
 refine wpQuiet_nil ?_;rintro _ ⟨u,rfl⟩;go_wp2;go_ret;exact⟨rfl,B1.out.trans u.2⟩
end Go.Proofs.YtelkehjdfcoeiaaGreat
