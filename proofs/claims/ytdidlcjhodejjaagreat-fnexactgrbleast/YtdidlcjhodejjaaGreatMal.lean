/-
  What is left of a pair of operators: the program and the model.
-/
import Derived.Test.YtdidlcjhodejjaaGreatMak
import Derived.Shelf.Abstract
set_option maxHeartbeats 8000000
set_option maxRecDepth 100000
namespace Go.Proofs.YtdidlcjhodejjaaGreat
open Go.RowKit Go.Deep Go.Joins
set_option linter.unusedVariables false
theorem jE {t:T} (h:t.m.ok=true∧1≤t.c∧t.c≤100):cG [t]=true:=
 gE (by simp) ⟨List.pairwise_singleton _ _,fun s hs=>by simp at hs;subst hs;exact h⟩
def pX (L:List T) (t:T) (g:Nat→T) (m:Nat):List T×Bool:=
 match cT (lf [t]) g m 1 with
 |none=>([],false)
 |some Y=>if(cY L Y).length≤400 then(cY L Y,true)else([],false)
theorem YA (L:List T) (t:T) (g:Nat→T) (m:Nat):(pX L t g m).1.length≤400:=by
 unfold pX;split
 ·simp
 ·split
  ·assumption
  ·simp
theorem Dw {t:T} (ht:t.m.ok=true∧1≤t.c∧t.c≤100) {g:Nat→T} {m:Nat} (hg:qL g m):cT (lf [⟨101-t.c,t.m⟩]) g m 1=(cT (lf [t]) g m 1).map (kZ 100):=by
 refine AQ (by omega) (by omega) (f:=lf [t]) (la:=1) (fun i hi=>?_) hg (fun i hi=>?_) 1 (Nat.le_refl _)
 ·obtain rfl:i=0:=by omega
  exact⟨ht.1,by show 0≤t.c;omega,ht.2.2⟩
 ·obtain rfl:i=0:=by omega
  show(⟨101-t.c,t.m⟩:T)=⟨100*t.c%101,t.m⟩
  congr 1;omega
theorem UF (w:World) (pa:Option Addr) (pc:Nat) (L:List T) (t:T) (b:Option Addr) (m cb:Nat) (g:Nat→T) (hp:RL w pa pc L) (hl:L.length≤400) (hL:aK L) (ht:t.m.ok=true∧1≤t.c∧t.c≤100) (hb:Rd w b m cb g) (hg:aN m g=true):Calls Tryz.prog 87 #[.slice pa L.length pc,.agg #[.int .i64 t.c,.int .i64 t.m.x,.int .i64 t.m.y,.int .i64 t.m.d,.int .i64 t.m.e],.slice b m cb] w fun r w'=>∃v,r= .returned (.tuple #[v,.bool (pX L t g m).2])∧Below w.heap.size w w'∧w'.ownsRow w.heap.size 42 5 v (pX L t g m).1.length (aE (pX L t g m).1):=by
 obtain⟨l2,gg⟩:=cF hg;have HP:=aA hp
 have HG:=aA hb;have HL:=aA hL
 have hmn:=Dw ht gg;obtain⟨t0,t1,t2⟩:=ht;have gs:qL (lf [(⟨101-t.c,t.m⟩:T)]) 1:=fun i hi=>by
  obtain rfl:i=0:=by omega
  exact⟨t0,by show 0≤101-t.c;omega,by show 101-t.c≤100;omega⟩
 have gt:qL (lf [t]) 1:=fun i hi=>by
  obtain rfl:i=0:=by omega
  exact⟨t0,by show 0≤t.c;omega,t2⟩
 have hcall:=fun(W:World) (h:RL W (some ⟨w.heap.size+1,0,none⟩) 1 [(⟨101-t.c,t.m⟩:T)]) (h':Rd W b m cb g)=>UQ W (some ⟨w.heap.size+1,0,none⟩) b 1 1 m cb (lf [(⟨101-t.c,t.m⟩:T)]) g h h' (by omega) l2 gs gg;rw[hmn]at hcall;have HGT:=aA gt
 have HGG:=aA gg;clear hp hb hL gs gt gg hmn;unfold pX;have hrl:=gR (w.alloc (.cells #[.int .i64 t.c,.int .i64 t.m.x,.int .i64 t.m.y,.int .i64 t.m.d,.int .i64 t.m.e] 42)) (⟨101-t.c,t.m⟩:T)
 rw[World.size_alloc]at hrl;have HRL:=aA hrl
 have HBL:=aA (aR w (.cells #[.int .i64 t.c,.int .i64 t.m.x,.int .i64 t.m.y,.int .i64 t.m.d,.int .i64 t.m.e] 42) (.cells #[.int .i64 (101-t.c),.int .i64 t.m.x,.int .i64 t.m.y,.int .i64 t.m.d,.int .i64 t.m.e] 42));clear hrl;cases hY:cT (lf [t]) g m 1 with
 |none=>
  rw[hY]at hcall;simp only[Option.map_none,lC]at hcall;go_enter Tryz.func87,Tryz.ntmps87;go_wp2_with fail;refine(hcall _ HRL.out (HG.out.below HBL.out)).mono ?_;rintro r w1 ⟨v1,rfl,hb1,ho1⟩;have HB1:=aA (aB HBL.out hb1)
  clear hb1 ho1 hcall;go_wp2;refine bY (results_tmp2 rfl _ _ _) rfl ?_;exact⟨_,rfl,HB1.out.alloc HB1.out.size _,dY w1 w.heap.size HB1.out.size⟩
 |some Y=>
  have fY:=dQ HGT.out HGG.out 1 Y (Nat.le_refl _) hY;have lY:=gQ 1 Y hY
  have fS:=gW (c:=100) (by omega) (by omega) fY;have lS:=gA 100 Y
  have hsl:=EI L Y;rw[hY]at hcall;simp only[Option.map_some,lC]at hcall;obtain⟨Z,hZ⟩:∃Z,kZ 100 Y=Z:=⟨_,rfl⟩
  rw[hZ]at hcall fS lS;have hadd:cY L Y=dJ L Z:=by rw[←hZ];rfl
  dsimp only;rw[hadd]at hsl⊢;have lZ:Z.length≤400:=by omega
  have c1:Hid (∀i,i<L.length→0≤(lf L i).c∧(lf L i).c≤100):=fun i hi=>by have:=(zL HL.out).2 i hi;omega
  have c2:Hid (∀i,i<Z.length→0≤(lf Z i).c∧(lf Z i).c≤100):=fun i hi=>by have:=(zL fS).2 i hi;omega
  have HAD:Hid (iM (lf L) L.length (lf Z) Z.length 0 0=dJ L Z):=rfl;obtain⟨R,hR⟩:∃R,dJ L Z=R:=⟨_,rfl⟩
  rw[hR]at hsl HAD⊢;have hRl:R.length≤1000:=by omega
  clear hZ hadd hR fS fY lS hsl;by_cases hle:R.length≤400
  ·have hg4:¬(400:Int)<(R.length:Int):=by omega
   rw[if_pos hle];go_enter Tryz.func87,Tryz.ntmps87;go_wp2_with fail;refine(hcall _ HRL.out (HG.out.below HBL.out)).mono ?_;rintro r w1 ⟨v1,rfl,hb1,ho1⟩;obtain⟨a1,k1,rfl,hout⟩:=aH ho1 (by omega);have HB1:=aA (aB HBL.out hb1)
   have HZ1:=aA hout.1;clear hb1 ho1 hout hcall;go_wp2_with fail;refine(sG _ _ _ _ _ _ _ (lf L) (lf Z) (HP.out.below HB1.out) HZ1.out (by omega) c1.out c2.out).mono ?_;rw[HAD.out];rintro r w2 ⟨v2,rfl,hb2,ho2⟩;have HB2:=aA (aB HB1.out hb2)
   have HO2:=aA (jG ho2 HB1.out.size);obtain⟨a2,k2,rfl,hout⟩:=aH ho2 (by omega);clear hb2 ho2 hout;go_wp2;refine bY (results_tmp2 rfl _ _ _) rfl ?_;exact⟨_,rfl,HB2.out,HO2.out⟩
  ·have hg4:(400:Int)<(R.length:Int):=by omega
   rw[if_neg hle];go_enter Tryz.func87,Tryz.ntmps87;go_wp2_with fail;refine(hcall _ HRL.out (HG.out.below HBL.out)).mono ?_;rintro r w1 ⟨v1,rfl,hb1,ho1⟩;obtain⟨a1,k1,rfl,hout⟩:=aH ho1 (by omega);have HB1:=aA (aB HBL.out hb1)
   have HZ1:=aA hout.1;clear hb1 ho1 hout hcall;go_wp2_with fail;refine(sG _ _ _ _ _ _ _ (lf L) (lf Z) (HP.out.below HB1.out) HZ1.out (by omega) c1.out c2.out).mono ?_;rw[HAD.out];rintro r w2 ⟨v2,rfl,hb2,ho2⟩;have HB2:=aA (aB HB1.out hb2)
   have HO2:=aA (jG ho2 HB1.out.size);obtain⟨a2,k2,rfl,hout⟩:=aH ho2 (by omega);clear hb2 ho2 hout;go_wp2;refine bY (results_tmp2 rfl _ _ _) rfl ?_;exact⟨_,rfl,HB2.out.alloc HB2.out.size _,dY w2 w.heap.size HB2.out.size⟩
theorem aL {n:Nat} {ln:Nat→Nat} {f:Nat→Nat→T} (h:aT n ln f=true):n≤12∧∀i,i<n→ln i≠0∧aN (ln i) (f i)=true:=of_decide_eq_true h
def jS (p:T→Bool) (f:Nat→T):Nat→Int
 |0=> -1
 |n+1=>if 0≤jS p f n then jS p f n else if p (f n)=true then(n:Int)else -1
theorem wH {p:T→Bool} {f:Nat→T}:∀{k:Nat},(∀j,j<k→p (f j)=false)→jS p f k= -1
 |0,_=>rfl
 |k+1,h=>by have h1:=wH (p:=p) (f:=f) (k:=k) (fun j hj=>h j (by omega));unfold jS;rw[h1,if_neg (by omega),if_neg (by rw[h k (by omega)];decide)]
theorem AJ {p:T→Bool} {f:Nat→T} {k:Nat} (h:∀j,j<k→p (f j)=false) (hk:p (f k)=true):∀n,k<n→jS p f n=(k:Int)
 |0,h0=>by omega
 |n+1,h0=>by
  by_cases e:k=n
  ·subst e;unfold jS;rw[wH h,if_neg (by omega),if_pos hk]
  ·have h1:=AJ h hk n (by omega);unfold jS;rw[h1,if_pos (by omega)]
theorem qT {p:T→Bool} {f:Nat→T}:∀{n:Nat},0≤jS p f n↔∃i,i<n∧p (f i)=true
 |0=>⟨fun h=>absurd (show(0:Int)≤ -1 from h) (by decide),fun⟨_,h,_⟩=>by omega⟩
 |n+1=>by
  have ih:=qT (p:=p) (f:=f) (n:=n);unfold jS;by_cases h:0≤jS p f n
  ·rw[if_pos h];exact⟨fun _=>by obtain⟨i,hi,hp⟩:=ih.1 h;exact⟨i,by omega,hp⟩,fun _=>h⟩
  ·rw[if_neg h];by_cases hp:p (f n)=true
   ·rw[if_pos hp];exact⟨fun _=>⟨n,by omega,hp⟩,fun _=>by omega⟩
   ·rw[if_neg hp];refine⟨fun hh=>absurd hh (by decide),fun⟨i,hi,hpi⟩=>?_⟩;by_cases e:i=n
    ·subst e;exact absurd hpi hp
    ·exact absurd (ih.2 ⟨i,by omega,hpi⟩) h
def Ad (g:Nat) (lb:Array Value) (p:T→Bool) (Q:World→Prop) (f:Nat→T) (n:Nat):Prop:=
 ∀(k:Nat) (W:World),k<n→Q W→Calls Tryz.prog g (#[.agg #[.int .i64 (f k).c,.int .i64 (f k).m.x,.int .i64 (f k).m.y,.int .i64 (f k).m.d,.int .i64 (f k).m.e]]++lb) W fun r w'=>r= .returned (.bool (p (f k)))∧Below W.heap.size W w'
theorem Qf (w:World) (a:Option Addr) (n cap:Nat) (f:Nat→T) (g:Nat) (lb:Array Value) (p:T→Bool) (Q:World→Prop) (eg:∀args w,(callFunc g args).run Tryz.prog w= .ok (.enter g args) w) (hW:Ad g lb p Q f n) (hQ:∀W',Below w.heap.size w W'→Q W') (h:Rd w a n cap f):Calls Tryz.prog 118 #[.slice a n cap,.func (.func g) #[] lb] w fun r w'=>r= .returned (.int .i64 (jS p f n))∧Below w.heap.size w w':=by
 have HA:=aA h;have HW:=aA hW
 have HQ:=aA hQ;have hn:(n:Int)≤140737488351232:=by have:=h.2.1;omega
 clear h hW hQ;go_enter Tryz.func118,Tryz.ntmps118;go_wp2;go_loopw [8] (fun v wr=>∃k:Nat,k≤n∧v= .int .i64 (k:Int)∧Below w.heap.size w wr∧∀j,j<k→p (f j)=false) (fun v _=>n-(intOf v).toNat);case atStart=>exact⟨0,Nat.zero_le _,rfl,bL _ _,fun j hj=>by omega⟩
 case round=>
  obtain⟨k,hk,rfl,hB,hJ⟩:=hrel;have HJ:=aA hJ
  have HB:=aA hB;clear hJ;by_cases hlt:k<n
  ·have hkn:(k:Int)<(n:Int):=by omega
   have hri:=HA.out.below hB;rcases hri.2.2 with h0|⟨b,off,hpe,hblt,hcl⟩
   ·omega
   obtain⟨g0,g1,g2,g3,g4⟩:=hcl k hlt;have HCALL:=aA (HW.out k wr hlt (HQ.out _ hB))
   clear hcl hri hB;subst hpe;cases hpk:p (f k)
   ·have HP:=aA hpk;go_wp2_with fail;refine HCALL.out.mono ?_;rw[hpk];rintro r w4 ⟨rfl,hb4⟩;have HB4:=aA (aB HB.out hb4)
    clear hb4 g0 g1 g2 g3 g4 hpk;go_wp2;go_roundw
    case rel=>exact⟨k+1,by omega,by go_num,HB4.out,fun j hj=>by
     by_cases e:j=k
     ·rw[e];exact HP.out
     ·exact HJ.out j (by omega)⟩
    case measure=>simp[intOf];omega
   ·have HE:Hid (jS p f n=(k:Int)):=AJ HJ.out hpk n hlt;go_wp2_with fail;refine HCALL.out.mono ?_;rw[hpk];rintro r w4 ⟨rfl,hb4⟩;have HB4:=aA (aB HB.out hb4)
    clear hb4 g0 g1 g2 g3 g4 hpk;go_wp2;go_ret;exact⟨congrArg (fun z=>Ending.returned (Value.int IntKind.i64 z)) HE.out.symm,HB4.out⟩
  ·have hnl:¬(k:Int)<(n:Int):=by omega
   have hie:k=n:=by omega
   subst hie;have HE:Hid (jS p f k= -1):=wH HJ.out
   go_wp2;go_ret;exact⟨congrArg (fun z=>Ending.returned (Value.int IntKind.i64 z)) HE.out.symm,HB.out⟩
theorem Mz (t:T) (m:M) (B:Nat) (W:World) (h:M4 W B m.x m.y m.d m.e):Calls Tryz.prog 119 #[.agg #[.int .i64 t.c,.int .i64 t.m.x,.int .i64 t.m.y,.int .i64 t.m.d,.int .i64 t.m.e],.pointer (some ⟨B,0,none⟩)] W fun r w'=>r= .returned (.bool (M.dvd t.m m))∧Below W.heap.size W w':=by
 obtain⟨bv,hbv⟩:∃bv,M.dvd ⟨t.m.x,t.m.y,t.m.d,t.m.e⟩ ⟨m.x,m.y,m.d,m.e⟩=bv:=⟨_,rfl⟩
 rw[show M.dvd t.m m=bv from hbv];have HD:=aA hbv
 have B1w:=aA (aC W (.cells #[.int .i64 t.c,.int .i64 t.m.x,.int .i64 t.m.y,.int .i64 t.m.d,.int .i64 t.m.e] 42));have hlt:=h.lt
 obtain⟨c1,c2,c3,c4⟩:=h;clear hbv;go_enter Tryz.func119,Tryz.ntmps119;go_wp2_with fail;refine(jB HD.out _).mono ?_;rintro r w1 ⟨rfl,hb⟩;have HB:=aA (aB B1w.out hb)
 clear hb c1 c2 c3 c4;go_wp2;go_ret;exact⟨rfl,HB.out⟩
theorem IC (w:World) (a:Option Addr) (n cap:Nat) (f:Nat→T) (m:M) (h:Rd w a n cap f):Calls Tryz.prog 75 #[.slice a n cap,.agg #[.int .i64 m.x,.int .i64 m.y,.int .i64 m.d,.int .i64 m.e]] w fun r w'=>r= .returned (.int .i64 (jS (fun t=>M.dvd t.m m) f n))∧Below w.heap.size w w':=by
 have HI:=aA (Qf (w.alloc (.cells #[.int .i64 m.x,.int .i64 m.y,.int .i64 m.d,.int .i64 m.e] 40)) a n cap f 119 #[.pointer (some ⟨w.heap.size,0,none⟩)] (fun t=>M.dvd t.m m) (fun W=>M4 W w.heap.size m.x m.y m.d m.e) (enters_of Tryz.func119 (by kernel_rfl) rfl) (fun k W hk hQ=>Mz (f k) m _ W hQ) (fun W' hb=>(M4.box w 40 m.x m.y m.d m.e).below hb) (h.below (aC w _)));have HB0:=aA (aC w (.cells #[.int .i64 m.x,.int .i64 m.y,.int .i64 m.d,.int .i64 m.e] 40))
 clear h;go_enter Tryz.func75,Tryz.ntmps75;go_wp2_with fail;refine HI.out.mono ?_;rintro r w1 ⟨rfl,hb⟩;have HB:=aA (aB HB0.out hb)
 clear hb HI HB0;go_wp2;go_ret;exact⟨rfl,HB.out⟩
def kD (o:Int) (ln:Nat→Nat) (f:Nat→Nat→T):Nat→List T
 |0=>[]
 |i+1=>kD o ln f i++[kC o ln f i]
theorem fU (o:Int) (ln:Nat→Nat) (f:Nat→Nat→T):∀i,(kD o ln f i).length=i
 |0=>rfl
 |i+1=>by unfold kD;rw[List.length_append,fU o ln f i];rfl
theorem oS (o:Int) (ln:Nat→Nat) (f:Nat→Nat→T):∀n i,i<n→lf (kD o ln f n) i=kC o ln f i
 |0,i,h=>by omega
 |n+1,i,h=>by
  have hl:=fU o ln f n;unfold kD lf;by_cases e:i=n
  ·subst e;rw[List.getD_eq_getElem?_getD,List.getElem?_append_right (by omega),hl];simp
  ·have:=oS o ln f n i (by omega);unfold lf at this;rw[List.getD_eq_getElem?_getD]at this⊢;rw[List.getElem?_append_left (by omega)];exact this
theorem iS (w:World) (o:Int) (a:Option Addr) (n cap:Nat) (ho:o<1∨3<o):Calls Tryz.prog 45 #[.int .i64 o,.slice a n cap] w fun r w'=>r= .returned (.tuple #[.slice none 0 0,.bool false])∧Below w.heap.size w w':=by
 go_enter Tryz.func45,Tryz.ntmps45;go_wp2_with fail;refine(nC _ _ ho).mono ?_;rintro r w1 ⟨rfl,hb1⟩;have HB:=aA hb1
 clear hb1;go_wp2;refine bY (v:=.tuple #[.slice none 0 0,.bool false]) (by simp[results,Tryz.results45,go_sem, *]) rfl ⟨rfl,HB.out⟩
theorem jM (w:World) (o:Int) (a:Option Addr) (n cap:Nat) (ad:Nat→Option Addr) (ln cp:Nat→Nat) (f:Nat→Nat→T) (h:cZ w a n cap ad ln cp f) (o1:1≤o) (o2:o≤3) (hls:aT n ln f=false):Calls Tryz.prog 45 #[.int .i64 o,.slice a n cap] w fun r w'=>r= .returned (.tuple #[.slice none 0 0,.bool false])∧Below w.heap.size w w':=by
 have HH:=aA h;clear h;go_enter Tryz.func45,Tryz.ntmps45;go_wp2_with fail;refine(iA _ _ o1 o2).mono ?_;rintro r w1 ⟨fv,rfl,hb1⟩;have HB:=aA hb1
 have HR:=aA (HH.out.below hb1);clear hb1;go_wp2_with fail;refine(Df _ _ _ _ _ _ _ _ HR.out).mono ?_;rw[hls];rintro r w2 ⟨rfl,hb2⟩;have HB2:=aA (aB HB.out hb2)
 clear hb2;go_wp2;refine bY (v:=.tuple #[.slice none 0 0,.bool false]) (by simp[results,Tryz.results45,go_sem, *]) rfl ⟨rfl,HB2.out⟩
theorem kM (w:World) (o:Int) (a:Option Addr) (n cap:Nat) (ad:Nat→Option Addr) (ln cp:Nat→Nat) (f:Nat→Nat→T) (h:cZ w a n cap ad ln cp f) (o1:1≤o) (o2:o≤3) (hls:aT n ln f=true):Calls Tryz.prog 45 #[.int .i64 o,.slice a n cap] w fun r w'=>∃v,r= .returned (.tuple #[v,.bool true])∧Below w.heap.size w w'∧w'.ownsRow w.heap.size 42 5 v (kD o ln f n).length (aE (kD o ln f n)):=by
 obtain⟨i0,hi0,hz0,hz1,hz2⟩:=info_parts uG;have HH:=aA h
 have hall:=aL hls;have HO:=aA hall.2
 have hn:(n:Int)≤12:=by have:=hall.1;omega
 clear h hall;go_enter Tryz.func45,Tryz.ntmps45;go_wp2_with fail;refine(iA _ _ o1 o2).mono ?_;rintro r w1 ⟨fv,rfl,hb1⟩;have HB:=aA hb1
 have HR:=aA (HH.out.below hb1);clear hb1;go_wp2_with fail;refine(Df _ _ _ _ _ _ _ _ HR.out).mono ?_;rw[hls];rintro r w2 ⟨rfl,hb2⟩;have HB2:=aA (aB HB.out hb2)
 clear hb2 HB HR hls;go_wp2;go_loopw [8,27] (fun v i wr=>∃k:Nat,k≤n∧i= .int .i64 (k:Int)∧Below w.heap.size w wr∧wr.ownsRow w.heap.size 42 5 v (kD o ln f k).length (aE (kD o ln f k))) (fun _ i _=>n-(intOf i).toNat);case atStart=>exact⟨0,Nat.zero_le _,rfl,HB2.out,nO w2 _⟩
 case round=>
  obtain⟨k,hk,rfl,hB,hown⟩:=hrel;have HB3:=aA hB
  have HO3:=aA hown;clear hown;by_cases hlt:k<n
  ·rcases HH.out.2.2.1 with h0|⟨b,off,rfl,hblt,hcl⟩
   ·omega
   have hkl:(k:Int)<(n:Int):=by omega
   have g0:wr.cell? ⟨b,off+k,none⟩=some (.slice (ad k) (ln k) (cp k)):=(hB.cell (p:=⟨b,off+k,none⟩) hblt).trans (hcl k hlt);have HK:=aA ((HH.out.2.2.2 k hlt).below hB)
   have hwl:=fU o ln f k;obtain⟨t,ht⟩:∃t,kC o ln f k=t:=⟨_,rfl⟩
   have HT:=aA ht;have hok:=HO.out k hlt
   have hlo:bF o (ln k) (f k)=true:=by unfold bF;rw[hok.2,decide_eq_true (show 1≤o∧o≤3 from⟨o1,o2⟩),decide_eq_true (show 0<ln k by omega)];rfl
   have hlt':bQ o (ln k) (f k)=t:=(dP hlo).trans ht;have HC:=aA (kV wr o (ad k) (ln k) (cp k) (f k) HK.out)
   clear hcl hB hok ht;go_wp2_with fail;refine HC.out.mono ?_;rw[hlt',hlo];rintro r w4 ⟨rfl,hb4⟩;have hB4:=aB HB3.out hb4
   have hO4:=dC HO3.out hb4;clear hb4 g0 hlt' hlo HC HK;have e2:kD o ln f (k+1)=kD o ln f k++[t]:=by rw[←HT.out];rfl
   have HE:=aA e2;have HL:=aA hwl
   have hB5:=hB4.alloc hB4.size (.cells #[.int .i64 t.c,.int .i64 t.m.x,.int .i64 t.m.y,.int .i64 t.m.d,.int .i64 t.m.e] 42);have hO5:=hO4.alloc (.cells #[.int .i64 t.c,.int .i64 t.m.x,.int .i64 t.m.y,.int .i64 t.m.d,.int .i64 t.m.e] 42)
   have hnew:((w4.alloc (.cells #[.int .i64 t.c,.int .i64 t.m.x,.int .i64 t.m.y,.int .i64 t.m.d,.int .i64 t.m.e] 42)).alloc (.cells #[.int .i64 t.c,.int .i64 t.m.x,.int .i64 t.m.y,.int .i64 t.m.d,.int .i64 t.m.e] 42)).heap[w4.heap.size+1]? =some (.cells #[.int .i64 t.c,.int .i64 t.m.x,.int .i64 t.m.y,.int .i64 t.m.d,.int .i64 t.m.e] 42):=by have:=heap_alloc_new (w4.alloc (.cells #[.int .i64 t.c,.int .i64 t.m.x,.int .i64 t.m.y,.int .i64 t.m.d,.int .i64 t.m.e] 42)) (.cells #[.int .i64 t.c,.int .i64 t.m.x,.int .i64 t.m.y,.int .i64 t.m.d,.int .i64 t.m.e] 42);rw[World.size_alloc]at this;exact this
   have HN:=aA hnew;clear e2 HT hnew;go_wp2_with (at_builtin;refine wpList_append_lies _ rfl (.tmp 37) (.tmp 39) 45 rfl w.heap.size 42 i0 _ 5 40 Tryz.underlying45 hi0 hz0 hz1 hz2 rfl (by omega) _ (kD o ln f k).length (aE (kD o ln f k)) rfl (hO5.alloc _) ⟨w4.heap.size+1,0,none⟩ 1 1 (aE [t]) rfl (by rw[aX];rfl) (by rw[dM];exact World.news_of_block HN.out) (dX _) (by omega) (by unfold maxLen;omega) (by omega) (by have:=hB4.size;simp;omega) _ rfl ?_;intro g0 cap0 w5 hown1 hgrow hat hlt1;have HB:=aA ((hB5.alloc hB5.size _).grown hgrow (jZ hB4.size (by simp;omega)) (fun k hk=>(hO4.lt k hk).1));have HO1:=aA hown1;clear hown1 hgrow hat hlt1 hO4 hO5);go_roundw
   case rel=>exact⟨k+1,by omega,by go_num,HB.out,by
    have h:=HO1.out;rw[HE.out,bK,List.length_append];rw[HL.out]at h⊢
    exact h⟩
   case measure=>simp[intOf];omega
  ·have hnl:¬(k:Int)<(n:Int):=by omega
   have hie:k=n:=by omega
   subst hie;go_wp2;refine bY (v:=.tuple #[u8,.bool true]) (by simp[results,Tryz.results45,go_sem, *]) rfl ⟨_,rfl,HB3.out,HO3.out⟩
end Go.Proofs.YtdidlcjhodejjaaGreat
namespace Go.Proofs.YtdidlcjhodejjaaGreat
open Go.RowKit
set_option linter.unusedVariables false
theorem OY (φ:M→Fq) {K:List T} {a:T} {f:Nat→T} {lb:Nat} (hK:aK K) (ha:a.m.ok=true∧0≤a.c∧a.c≤100) (hg:qL f lb):∀k K',k≤lb→gT K a f k=some K'→nM φ K'=nM φ K+su (List.range k) (fun j=>nM φ (dR a (f j)))
 |0,K',_,h=>by cases h;show _=nM φ K+0;grind
 |k+1,K',hk,h=>by
  rw[gT]at h;cases hr:gT K a f k with
  |none=>rw[hr]at h;cases h
  |some K1=>
   rw[hr]at h;change iG K1 a (f k)=some K' at h;have h1:=OY φ hK ha hg k K1 (by omega) hr
   have hf1:=mL hK ha hg k K1 (by omega) hr;unfold iG at h;split at h
   ·rename_i hok;cases h;have h2:=hg k (by omega)
    have tw:uN a (f k) (a.m.sum (f k).m):=⟨ha.1,h2.1,hok.1,rfl,rfl,rfl,rfl,ha.2,h2.2⟩
    rw[UG φ hf1 (iB tw).1,h1,List.range_succ,nS];show _=_+(_+(_+0))
    grind
   ·cases h
theorem OZ {K:List T} {a:T} {f:Nat→T}:∀k K',gT K a f k=some K'→∀j,j<k→(a.m.sum (f j).m).ok=true
 |0,_,_,j,hj=>by omega
 |k+1,K',h,j,hj=>by
  rw[gT]at h;cases hr:gT K a f k with
  |none=>rw[hr]at h;cases h
  |some K1=>
   rw[hr]at h;change iG K1 a (f k)=some K' at h;unfold iG at h;split at h
   ·rename_i hok;by_cases e:j=k
    ·rw[e];exact hok.1
    ·exact OZ k K1 hr j (by omega)
   ·cases h
theorem CY (φ:M→Fq) {f f':Nat→T} {la lb:Nat} (hf:qL f la) (hg:qL f' lb):∀i K,i≤la→cT f f' lb i=some K→nM φ K=su (List.range i) (fun k=>su (List.range lb) (fun j=>nM φ (dR (f k) (f' j))))∧∀k,k<i→∀j,j<lb→((f k).m.sum (f' j).m).ok=true
 |0,K,_,h=>by cases h;exact⟨rfl,fun k hk=>by omega⟩
 |i+1,K,hi,h=>by
  rw[cT]at h;cases hr:cT f f' lb i with
  |none=>rw[hr]at h;cases h
  |some K1=>
   rw[hr]at h;have h1:=CY φ hf hg i K1 (by omega) hr
   refine⟨?_,fun k hk j hj=>?_⟩
   ·rw[OY φ (dQ hf hg i K1 (by omega) hr) (hf i (by omega)) hg lb K (Nat.le_refl _) h,h1.1,List.range_succ,nS];show _=_+(_+0)
    grind
   ·by_cases e:k=i
    ·rw[e];exact OZ lb K h j hj
    ·exact h1.2 k (by omega) j hj
theorem Gg (L:List T) (f:T→Fq):su L f=su (List.range L.length) (fun i=>f (lf L i)):=by
 have e:L=(List.range L.length).map (lf L):=by refine List.ext_getElem (by simp) (fun i h1 h2=>?_);rw[List.getElem_map,List.getElem_range,jA h1]
 have:=yW (lf L) f (List.range L.length);rw[←e]at this;exact this
theorem LM {A B P:List T} (h:nU A B=(P,true)):(∀φ,nM φ P=su A (fun a=>su B (fun b=>nM φ (dR a b))))∧∀a∈A,∀b∈B,(a.m.sum b.m).ok=true:=by
 unfold nU bV at h;split at h
 ·rename_i hok;obtain⟨l1,g1⟩:=cF hok.1;obtain⟨l2,g2⟩:=cF hok.2;cases hm:cT (lf A) (lf B) B.length A.length with
  |none=>rw[hm]at h;simp[lC]at h
  |some K=>
   rw[hm]at h;have e:K=P:=by simpa[lC]using h
   refine⟨fun φ=>?_,fun a ha b hb=>?_⟩
   ·rw[←e,(CY φ g1 g2 _ K (Nat.le_refl _) hm).1,Gg A];refine fE (fun i _=>?_);rw[Gg B]
   ·obtain⟨i,hi,rfl⟩:=List.mem_iff_getElem.1 ha;obtain⟨j,hj,rfl⟩:=List.mem_iff_getElem.1 hb;have:=(CY (fun _=>0) g1 g2 _ K (Nat.le_refl _) hm).2 i hi j hj
    rwa[jA hi,jA hj]at this
 ·simp at h
def Wt (W:M→Int):Prop:=∀(a b:M) (i k:Nat),W ⟨a.x+b.x-i,a.y+b.y-k,a.d+b.d-i,a.e+b.e-k⟩≤W a+W b-i-k∧W (a.sum b)=W a+W b
theorem Ef (φ:M→Fq) {a b:T} {m:M} (h:uN a b m):nM φ (dR a b)=su (List.range (iO a b+1)) (fun i=>su (List.range (jT a b+1)) (fun k=>zz (pB a b i k).c*φ (pB a b i k).m)):=by
 show nM φ (gS (gH a b (iO a b+1)) [])=_;rw[uZ _ _ (sE h) eQ,JS];unfold nM gH pK;rw[LD];have z:∀x:Fq,0+x=x:=by intro x;grind
 rw[z];refine fE (fun i _=>?_);rw[yW]
theorem EH (f:Nat→Fq):∀n,(∀i,0<i→f i=0)→su (List.range (n+1)) f=f 0
 |0,_=>by show f 0+0=f 0;grind
 |n+1,h=>by
  rw[List.range_succ,nS,EH f n h];show f 0+(f (n+1)+0)=f 0
  rw[h (n+1) (by omega)];grind
theorem WF {d x:Int} (d0:0≤d) (d1:d≤15) (x0:0≤x) (x1:x≤15):zz (wy d x 0)=1:=by
 have h:=Gv (d:=d) (x:=x) (i:=0) d0 d1 x0 x1 (by omega) (by omega);have e:((0:Nat):Int)=0:=rfl
 rw[e]at h;rw[h];unfold wN;rw[BN];rfl
theorem Eg {W:M→Int} (hW:Wt W) (φ:M→Fq) {a b:T} {m:M} (h:uN a b m) {n:Int} (hn:W a.m+W b.m≤n) (hφ:∀m,W m<n→φ m=0):nM φ (dR a b)=zz a.c*zz b.c*φ (a.m.sum b.m):=by
 obtain⟨ax0,ax1,ay0,ay1,ad0,ad1,ae0,ae1⟩:=M.ok_iff.1 h.ok1;obtain⟨bx0,bx1,by0,by1,bd0,bd1,be0,be1⟩:=M.ok_iff.1 h.ok2;have zr:∀x:Fq,x*0=0:=by intro x;grind
 have low:∀i k:Nat,0<i+k→φ (pB a b i k).m=0:=fun i k hik=>by
  have:=(hW a.m b.m i k).1;refine hφ _ ?_;show W ⟨a.m.x+b.m.x-i,a.m.y+b.m.y-k,a.m.d+b.m.d-i,a.m.e+b.m.e-k⟩<n
  omega
 rw[Ef φ h,EH _ _ (fun i hi=>rJ _ _ (fun k _=>by rw[low i k (by omega),zr])),EH _ _ (fun k hk=>by rw[low 0 k (by omega),zr])];have e:(pB a b 0 0).m=a.m.sum b.m:=by
  show(⟨a.m.x+b.m.x-((0:Nat):Int),a.m.y+b.m.y-((0:Nat):Int),a.m.d+b.m.d-((0:Nat):Int),a.m.e+b.m.e-((0:Nat):Int)⟩:M)=⟨a.m.x+b.m.x,a.m.y+b.m.y,a.m.d+b.m.d,a.m.e+b.m.e⟩
  simp
 rw[e];congr 1;show zz (a.c*b.c%101*wy a.m.d b.m.x ((0:Nat):Int)%101*wy a.m.e b.m.y ((0:Nat):Int)%101)=_
 have e0:((0:Nat):Int)=0:=rfl;rw[e0,mS,pN,mS,pN,mS,pN,WF ad0 ad1 bx0 bx1,WF ae0 ae1 by0 by1]
 grind
theorem Ot {A B P:List T} (h:nU A B=(P,true)) {a b:T} (ha:a∈A) (hb:b∈B):uN a b (a.m.sum b.m):=by
 obtain⟨oA,oB⟩:=LK h;have r1:=(aD oA).2.2 a ha
 have r2:=(aD oB).2.2 b hb;exact⟨r1.1,r2.1,(LM h).2 a ha b hb,rfl,rfl,rfl,rfl,⟨by omega,r1.2.2⟩,by omega,r2.2.2⟩
theorem Ov {W:M→Int} (hW:Wt W) {A B P:List T} (h:nU A B=(P,true)) {n:Int} (hn:∀a∈A,∀b∈B,W a.m+W b.m≤n) (φ:M→Fq) (hφ:∀m,W m<n→φ m=0):nM φ P=su A (fun a=>su B (fun b=>zz a.c*zz b.c*φ (a.m.sum b.m))):=by rw[(LM h).1];refine fE (fun a ha=>fE (fun b hb=>?_));exact Eg hW φ (Ot h ha hb) (hn a ha b hb) hφ
def dl (m:M) (x:M):Fq:=if eF m x=true then 1 else 0
theorem Dc {P:List T} (hP:aK P) {m:M} (hm:m.ok=true):nM (dl m) P=zz (aM P m):=by
 rw[qX _ hP];have e:su box (fun x=>zz (aM P x)*dl m x)=su box (fun x=>if eF m x=true then zz (aM P m)else 0):=by
  refine fE (fun x _=>?_);unfold dl;by_cases h:eF m x=true
  ·rw[if_pos h,if_pos h,dF.1 h];grind
  ·rw[if_neg h,if_neg h];grind
 rw[e,tT m _ box xY (JA hm)]
theorem GJ {W:M→Int} (hW:Wt W) (hinj:∀a b:M,a.ok=true→b.ok=true→W a=W b→a=b) {A B P:List T} (h:nU A B=(P,true)) {a0 b0:T} (ha0:a0∈A) (hb0:b0∈B) (hA:∀a∈A,W a.m≤W a0.m) (hB:∀b∈B,W b.m≤W b0.m):(⟨a0.c*b0.c%101,a0.m.sum b0.m⟩:T)∈P∧∀t∈P,W t.m≤W (a0.m.sum b0.m):=by
 obtain⟨oA,oB⟩:=LK h;have fA:=(aD oA).2
 have fB:=(aD oB).2;have fP:=oM h
 have ra:=fA.2 a0 ha0;have rb:=fB.2 b0 hb0
 have hs:=(LM h).2 a0 ha0 b0 hb0;have hsum:=(hW a0.m b0.m 0 0).2
 have key:∀m:M,m.ok=true→W (a0.m.sum b0.m)≤W m→zz (aM P m)=zz a0.c*zz b0.c*dl m (a0.m.sum b0.m):=fun m hm hle=>by
  rw[←Dc fP hm,Ov hW h (n:=W a0.m+W b0.m) (fun a ha b hb=>by have:=hA a ha;have:=hB b hb;omega) (dl m) (fun x hx=>by
   unfold dl;rw[if_neg];intro e;rw[dF.1 e]at hle
   omega)]
  have zr:∀x:Fq,x*0=0:=by intro x;grind
  have off:∀a∈A,∀b∈B,(a.m≠a0.m∨b.m≠b0.m)→dl m (a.m.sum b.m)=0:=fun a ha b hb hne=>by
   unfold dl;rw[if_neg];intro e;rw[dF.1 e,(hW a.m b.m 0 0).2]at hle;have h1:=hA a ha
   have h2:=hB b hb;rcases hne with hne|hne
   ·exact hne (hinj _ _ (fA.2 a ha).1 ra.1 (by omega))
   ·exact hne (hinj _ _ (fB.2 b hb).1 rb.1 (by omega))
  rw[xJ fA ha0 (fun a ha hne=>rJ _ _ (fun b hb=>by rw[off a ha b hb (.inl hne),zr])),xJ fB hb0 (fun b hb hne=>by rw[off a0 ha0 b hb (.inr hne),zr])]
 have c0:aM P (a0.m.sum b0.m)=a0.c*b0.c%101:=by
  have h1:=key _ hs (Int.le_refl _);have e1:dl (a0.m.sum b0.m) (a0.m.sum b0.m)=1:=by unfold dl;rw[if_pos (dF.2 rfl)]
  rw[e1]at h1;have h2:zz (aM P (a0.m.sum b0.m))=zz (a0.c*b0.c%101):=by rw[h1,mS,pN];grind
  exact Gu (bM fP _) ⟨by omega,by omega⟩ h2
 have cne:a0.c*b0.c%101≠0:=by
  have:=TX (a:=a0.c) (b:=b0.c) (by omega) (by omega) (by omega) (by omega)
  rwa[jW (by omega) ra.2.2 (by omega) rb.2.2]at this
 have mem:∀X:List T,∀m,aM X m≠0→∃s∈X,s.m=m∧s.c=aM X m:=fun X m=>by
  induction X with
  |nil=>intro h;exact absurd rfl h
  |cons s r ih=>
   intro h;rw[aM]at h⊢;by_cases e:eF s.m m=true
   ·exact⟨s,List.mem_cons_self ..,dF.1 e,by rw[if_pos e]⟩
   ·rw[if_neg e]at h⊢;obtain⟨x,hx,he⟩:=ih h;exact⟨x,List.mem_cons_of_mem _ hx,he⟩
 refine⟨?_,fun t ht=>?_⟩
 ·obtain⟨s,hs1,hs2,hs3⟩:=mem P (a0.m.sum b0.m) (by rw[c0];exact cne);have:s=⟨a0.c*b0.c%101,a0.m.sum b0.m⟩:=by cases s;simp only at hs2 hs3;rw[hs2,hs3,c0]
  rw[←this];exact hs1
 ·have rt:=fP.2 t ht;by_cases hle:W t.m≤W (a0.m.sum b0.m)
  ·exact hle
  ·exfalso;have h1:=key t.m rt.1 (by omega)
   have e1:dl t.m (a0.m.sum b0.m)=0:=by unfold dl;rw[if_neg];intro e;rw[dF.1 e]at hle;exact hle (Int.le_refl _)
   rw[e1]at h1;have ht2:aM P t.m=t.c:=by
    have hp:∀X:List T,aK X→t∈X→aM X t.m=t.c:=fun X hX hx=>by
     induction X with
     |nil=>cases hx
     |cons s r ih=>
      rw[aM];rcases List.mem_cons.1 hx with rfl|hx'
      ·rw[if_pos (dF.2 rfl)]
      ·have h1:=(List.pairwise_cons.1 hX.1).1 t hx';rw[if_neg (fun e=>by rw[dF.1 e]at h1;omega)];exact ih hX.tail hx'
    exact hp P fP ht
   rw[ht2]at h1;exact IQ rt.2.1 rt.2.2 (by rw[h1];grind)
def fH (o:Int) (m:M):Int:=if o=1 then fF m else if o=3 then xT m else iF m
theorem AU {o:Int} {a b:M} (ho:1≤o∧o≤3) (ha:a.ok=true) (hb:b.ok=true):M.ord o a b=c3 (fH o a) (fH o b):=by
 obtain⟨h1,h2⟩:=ho;have h:o=1∨o=2∨o=3:=by omega
 rcases h with rfl|rfl|rfl
 ·rw[←yS ha hb];simp[fH]
 ·rw[←KS ha hb];simp[fH]
 ·rw[←KQ ha hb];simp[fH]
theorem DP (o:Int):Wt (fH o):=fun a b i k=>by
 unfold fH fF xT iF M.sum;split
 ·simp only;omega
 ·split
  ·simp only;omega
  ·simp only;omega
theorem Bz {a b c d:Int} (hb:0≤b∧b≤15) (hd:0≤d∧d≤15) (h:a*16+b=c*16+d):a=c∧b=d:=by omega
theorem Ls {a b c d:Int} (hb:0≤b∧b≤65535) (hd:0≤d∧d≤65535) (h:a*65536+b=c*65536+d):b=d:=by omega
theorem VH {a:M} (ha:a.ok=true):0≤iF a∧iF a≤65535:=by obtain⟨x1,x2,y1,y2,d1,d2,e1,e2⟩:=M.ok_iff.1 ha;unfold iF;omega
theorem Fd {a b:M} (ha:a.ok=true) (hb:b.ok=true) (h:iF a=iF b):a=b:=by
 obtain⟨x1,x2,y1,y2,d1,d2,e1,e2⟩:=M.ok_iff.1 ha;obtain⟨x3,x4,y3,y4,d3,d4,e3,e4⟩:=M.ok_iff.1 hb;unfold iF at h;have k1:=Bz ⟨y1,y2⟩ ⟨y3,y4⟩ h
 have k2:=Bz ⟨x1,x2⟩ ⟨x3,x4⟩ k1.1;have k3:=Bz ⟨e1,e2⟩ ⟨e3,e4⟩ k2.1
 have q1:=k1.2;have q2:=k2.2
 have q3:=k3.2;have q4:=k3.1
 revert q1 q2 q3 q4
 cases a;cases b;intro q1 q2 q3 q4;simp only at q1 q2 q3 q4;rw[q1,q2,q3,q4]
theorem lW {o:Int} (a b:M) (ha:a.ok=true) (hb:b.ok=true) (h:fH o a=fH o b):a=b:=by
 refine Fd ha hb ?_;have ba:=VH ha
 have bb:=VH hb;unfold fH at h;split at h
 ·exact Ls ba bb h
 ·split at h
  ·exact Ls ba bb h
  ·exact h
theorem Mq {a b:Int}:0<c3 a b↔b<a:=by unfold c3;split<;>(try split)<;>omega
theorem yK {o:Int} {f:Nat→T} {n:Nat} (ho:1≤o∧o≤3) (hm:∀i,i<n→(f i).m.ok=true):∀(u i k:Nat),i+u≤n→k<n→bB o f u i k<n∧fH o (f k).m≤fH o (f (bB o f u i k)).m∧∀j,i≤j→j<i+u→fH o (f j).m≤fH o (f (bB o f u i k)).m
 |0,i,k,_,hk=>⟨hk,Int.le_refl _,fun j h1 h2=>by omega⟩
 |u+1,i,k,hi,hk=>by
  have hc:=Mq (a:=fH o (f i).m) (b:=fH o (f k).m);rw[←AU ho (hm i (by omega)) (hm k hk)]at hc;simp only[bB];split
  ·rename_i h;obtain⟨h1,h2,h3⟩:=yK ho hm u (i+1) i (by omega) (by omega);have h4:=hc.1 h
   refine⟨h1,by omega,fun j hj1 hj2=>?_⟩;by_cases hji:j=i
   ·rw[hji];exact h2
   ·exact h3 j (by omega) (by omega)
  ·rename_i h;obtain⟨h1,h2,h3⟩:=yK ho hm u (i+1) k (by omega) hk;have h4:¬fH o (f k).m<fH o (f i).m:=fun q=>h (hc.2 q)
   refine⟨h1,h2,fun j hj1 hj2=>?_⟩;by_cases hji:j=i
   ·rw[hji];omega
   ·exact h3 j (by omega) (by omega)
def uV (o:Int) (L:List T):T:=bQ o L.length (lf L)
def EZ (o:Int) (L:List T):Bool:=bF o L.length (lf L)
theorem fT {o:Int} {L:List T}:EZ o L=true↔(1≤o∧o≤3)∧cG L=true∧L≠[]:=by
 unfold EZ bF;rw[Bool.and_eq_true,Bool.and_eq_true,decide_eq_true_eq,decide_eq_true_eq];constructor
 ·rintro⟨⟨h1,h2⟩,h3⟩;exact⟨h1,h2,fun e=>by rw[e]at h3;simp at h3⟩
 ·rintro⟨h1,h2,h3⟩;exact⟨⟨h1,h2⟩,List.length_pos_iff.2 h3⟩
theorem yI {o:Int} {L:List T} (h:EZ o L=true):uV o L∈L∧∀t∈L,fH o t.m≤fH o (uV o L).m:=by
 obtain⟨ho,oL,hne⟩:=fT.1 h;have hpos:=List.length_pos_iff.2 hne
 have fl:=fR (show aN L.length (lf L)=true from oL);have e:uV o L=lf L (bD o (lf L) L.length):=dP h
 have hm:∀i,i<L.length→(lf L i).m.ok=true:=fun i hi=>(fl.2 i hi).1;have key:=yK (o:=o) (f:=lf L) (n:=L.length) ho hm (L.length-1) 1 0 (by omega) hpos
 have e2:bD o (lf L) L.length=bB o (lf L) (L.length-1) 1 0:=rfl;rw[e,e2];refine⟨?_,fun t ht=>?_⟩
 ·rw[jA key.1];exact List.getElem_mem _
 ·obtain⟨i,hi,rfl⟩:=List.mem_iff_getElem.1 ht;by_cases h0:i=0
  ·subst h0;have:=key.2.1
   rwa[jA hpos]at this
  ·have:=key.2.2 i (by omega) (by omega)
   rwa[jA hi]at this
open Go.RowKit Go.Deep Go.Joins
structure Dv where
 p:List T
 q:Nat→List T
 r:List T
def aV (o:Int) (L:List T):T:=lf L (bD o (lf L) L.length)
def BR (o:Int) (n:Nat) (ln:Nat→Nat) (f:Nat→Nat→T) (m:M):Int:=jS (fun t=>M.dvd t.m m) (kC o ln f) n
def oK (q:Nat→List T) (k:Nat) (L:List T) (i:Nat):List T:=if i=k then L else q i
def XG (o:Int) (ln:Nat→Nat) (f:Nat→Nat→T) (S:Dv) (k:Nat):T:=gI (aV o S.p) (kC o ln f k)
def jO (o:Int) (ln:Nat→Nat) (f:Nat→Nat→T) (S:Dv) (k:Nat):Option Dv:=
 match cT (lf [XG o ln f S k]) (f k) (ln k) 1 with
 |none=>none
 |some Y=>if(cY S.p Y).length≤400 then some ⟨cY S.p Y,oK S.q k (dJ (S.q k) [XG o ln f S k]),S.r⟩else none
def iW (o:Int) (S:Dv):Dv:=⟨cY S.p [aV o S.p],S.q,dJ S.r [aV o S.p]⟩
def dS (o:Int) (n:Nat) (ln:Nat→Nat) (f:Nat→Nat→T) (S:Dv):Option Dv:=
 if 0≤BR o n ln f (aV o S.p).m then jO o ln f S (BR o n ln f (aV o S.p).m).toNat else some (iW o S)
def eR (o:Int) (n:Nat) (ln:Nat→Nat) (f:Nat→Nat→T):Nat→Dv→Option Dv
 |0,S=>if S.p.length=0 then some S else none
 |u+1,S=>if S.p.length=0 then some S else match dS o n ln f S with
  |none=>none
  |some S'=>eR o n ln f u S'
def lB (p:List T):Dv:=⟨p,fun _=>[],[]⟩
def aW (o:Int) (p:List T) (n:Nat) (ln:Nat→Nat) (f:Nat→Nat→T):Option Dv:=
 if(1≤o∧o≤3)∧cG p=true∧aT n ln f=true then eR o n ln f 300 (lB p)else none
structure lA (u:Nat) (S:Dv):Prop where
 p:cG S.p=true
 q:∀k,aK (S.q k)∧(S.q k).length≤u
 r:aK S.r∧S.r.length≤u
theorem lA.start {p:List T} (h:cG p=true):lA 0 (lB p):=⟨h,fun _=>⟨eQ,Nat.le_refl _⟩,eQ,Nat.le_refl _⟩
theorem lG {o:Int} {n:Nat} {ln:Nat→Nat} {f:Nat→Nat→T} {u:Nat} {S:Dv} (h:S.p.length=0):eR o n ln f u S=some S:=by cases u<;>exact if_pos h
theorem FR {o:Int} {n:Nat} {ln:Nat→Nat} {f:Nat→Nat→T} {S:Dv} (h:S.p.length≠0):eR o n ln f 0 S=none:=if_neg h
theorem vY {o:Int} {n:Nat} {ln:Nat→Nat} {f:Nat→Nat→T} {u:Nat} {S:Dv} (h:S.p.length≠0) (hs:dS o n ln f S=none):eR o n ln f (u+1) S=none:=by show(if S.p.length=0 then some S else match dS o n ln f S with|none=>none|some S'=>eR o n ln f u S')=none;rw[if_neg h,hs]
theorem lH {o:Int} {n:Nat} {ln:Nat→Nat} {f:Nat→Nat→T} {u:Nat} {S S':Dv} (h:S.p.length≠0) (hs:dS o n ln f S=some S'):eR o n ln f (u+1) S=eR o n ln f u S':=by show(if S.p.length=0 then some S else match dS o n ln f S with|none=>none|some S'=>eR o n ln f u S')=_;rw[if_neg h,hs]
theorem gN {o:Int} {L:List T} (h:L.length≠0):aV o L∈L:=lK (tD (by omega))
theorem dU {o:Int} {L:List T} (hL:aK L) (h:L.length≠0):(aV o L).m.ok=true∧1≤(aV o L).c∧(aV o L).c≤100:=hL.2 _ (gN h)
theorem yH {o:Int} {L:List T} (ho:1≤o∧o≤3) (hL:cG L=true) (h:L.length≠0):aV o L=uV o L:=by have:bF o L.length (lf L)=true:=fT.2 ⟨ho,hL,fun e=>h (by rw[e];rfl)⟩;unfold uV;rw[dP this];rfl
theorem sZ {o:Int} {L:List T} (ho:1≤o∧o≤3) (hL:cG L=true) (h:L.length≠0):∀t∈L,fH o t.m≤fH o (aV o L).m:=by have:EZ o L=true:=fT.2 ⟨ho,hL,fun e=>h (by rw[e];rfl)⟩;rw[yH ho hL h];exact(yI this).2
theorem yG {o:Int} {n:Nat} {ln:Nat→Nat} {f:Nat→Nat→T} (hl:aT n ln f=true) {k:Nat} (hk:k<n):(kC o ln f k).m.ok=true∧1≤(kC o ln f k).c∧(kC o ln f k).c≤100:=by obtain⟨h0,h1⟩:=(aL hl).2 k hk;exact(fR h1).2 _ (tD (by omega))
theorem SD {a b:Int} (h1:1≤a) (h2:a≤100) (h3:1≤b) (h4:b≤100):1≤a*b%101∧a*b%101≤100:=by
 have h0:a*b%101≠0:=fun e=>by
  obtain⟨x,hx⟩:∃x:Nat,a=x:=⟨a.toNat,by omega⟩
  obtain⟨y,hy⟩:∃y:Nat,b=y:=⟨b.toNat,by omega⟩
  subst hx hy;have:=IB ⟨x,by omega⟩ ⟨y,by omega⟩ (by simp only;exact_mod_cast e)
  simp at this;omega
 omega
theorem vB {t l:T} (ht:t.m.ok=true∧1≤t.c∧t.c≤100) (hl:l.m.ok=true∧1≤l.c∧l.c≤100) (hd:l.m.dvd t.m=true):(gI t l).m.ok=true∧1≤(gI t l).c∧(gI t l).c≤100:=by
 have h1:=yU (b:=t.m) hl hd;have h2:=SD ht.2.1 ht.2.2 (wE hl.2.1 hl.2.2) (oQ l.c).2
 exact⟨h1.1,h2.1,h2.2⟩
theorem nK {o:Int} {n:Nat} {ln:Nat→Nat} {f:Nat→Nat→T} {m:M} (h:0≤BR o n ln f m):(BR o n ln f m).toNat<n∧M.dvd (kC o ln f (BR o n ln f m).toNat).m m=true:=by
 unfold BR at h⊢;obtain⟨i,hi,hp⟩:=qT.1 h;obtain⟨j,hj,h1,h2⟩:∃j,j<n∧(∀i,i<j→(fun t:T=>M.dvd t.m m) (kC o ln f i)=false)∧(fun t:T=>M.dvd t.m m) (kC o ln f j)=true:=by
  clear h
  revert i
  induction n with
  |zero=>intro i hi;omega
  |succ n ih=>
   intro i hi hp;by_cases hx:∃i,i<n∧(fun t:T=>M.dvd t.m m) (kC o ln f i)=true
   ·obtain⟨i',h1,h2⟩:=hx;obtain⟨j,hj,h3,h4⟩:=ih i' h1 h2;exact⟨j,by omega,h3,h4⟩
   ·have hin:i=n:=by
     rcases Nat.lt_or_ge i n with h|h
     ·exact absurd ⟨i,h,hp⟩ hx
     ·omega
    subst hin;refine⟨i,hi,fun k hk=>?_,hp⟩;cases hb:(fun t:T=>M.dvd t.m m) (kC o ln f k)with
    |false=>rfl
    |true=>exact absurd ⟨k,hk,hb⟩ hx
 rw[AJ h1 h2 n hj];exact⟨by simpa using hj,by simpa using h2⟩
theorem dH {t:T} (h:t.m.ok=true∧1≤t.c∧t.c≤100):aK [t]:=(aD (jE h)).2
theorem MK {o:Int} {n:Nat} {ln:Nat→Nat} {f:Nat→Nat→T} (hl:aT n ln f=true) {S:Dv} (hp:cG S.p=true) (h:S.p.length≠0) (hk:0≤BR o n ln f (aV o S.p).m):(XG o ln f S (BR o n ln f (aV o S.p).m).toNat).m.ok=true∧1≤(XG o ln f S (BR o n ln f (aV o S.p).m).toNat).c∧(XG o ln f S (BR o n ln f (aV o S.p).m).toNat).c≤100:=
 vB (dU (aD hp).2 h) (yG hl (nK hk).1) (nK hk).2
theorem CX {t:T} (ht:t.m.ok=true∧1≤t.c∧t.c≤100) {g:Nat→T} {m:Nat} (hg:aN m g=true) {Y:List T} (h:cT (lf [t]) g m 1=some Y):cG Y=true:=
 gE (gQ _ Y h) (dQ (cF (show aN 1 (lf [t])=true from jE ht)).2 (cF hg).2 _ Y (Nat.le_refl _) h)
theorem lA.take {o:Int} {n:Nat} {ln:Nat→Nat} {f:Nat→Nat→T} (hl:aT n ln f=true) {u:Nat} {S S':Dv} (h:lA u S) (h0:S.p.length≠0) (hk:0≤BR o n ln f (aV o S.p).m) (hs:jO o ln f S (BR o n ln f (aV o S.p).m).toNat=some S'):lA (u+1) S':=by
 have hg:=MK hl h.p h0 hk;have hkn:=(nK hk).1
 generalize(BR o n ln f (aV o S.p).m).toNat=k at hs hg hkn;unfold jO at hs;split at hs
 ·cases hs
 ·rename_i Y hY;split at hs
  ·rename_i hle;cases hs;have fY:=CX hg ((aL hl).2 k hkn).2 hY
   refine⟨gE hle (cW (aD h.p).2 (aD fY).2).1,fun i=>?_,h.r.1,Nat.le_succ_of_le h.r.2⟩;show aK (oK S.q k _ i)∧(oK S.q k _ i).length≤u+1
   unfold oK;split
   ·refine⟨(cU (h.q k).1 (dH hg)).1,?_⟩;have h1:=sA (S.q k) [XG o ln f S k]
    have h2:=(h.q k).2;simp only[List.length_singleton]at h1;omega
   ·exact⟨(h.q i).1,Nat.le_succ_of_le (h.q i).2⟩
  ·cases hs
theorem lA.leave {o:Int} {u:Nat} {S:Dv} (h:lA u S) (h0:S.p.length≠0) (hle:(cY S.p [aV o S.p]).length≤400):lA (u+1) (iW o S):=by
 have hg:=dU (o:=o) (aD h.p).2 h0;refine⟨gE hle (cW (aD h.p).2 (dH hg)).1,fun i=>⟨(h.q i).1,Nat.le_succ_of_le (h.q i).2⟩,(cU h.r.1 (dH hg)).1,?_⟩;have h1:=sA S.r [aV o S.p]
 have h2:=h.r.2;simp only[List.length_singleton]at h1;show(dJ S.r [aV o S.p]).length≤u+1
 omega
theorem iR {L:List T} (h:aK L) {t:T} (ht:t∈L):aM L t.m=t.c∧aM L t.m≠0:=by
 have h1:aM L t.m=t.c:=by
  induction L with
  |nil=>cases ht
  |cons s r ih=>
   rw[aM];rcases List.mem_cons.1 ht with rfl|ht'
   ·rw[if_pos (cM.2 rfl)]
   ·have h1:=h.head t ht';rw[if_neg (fun e=>by rw[cM.1 e]at h1;omega)];exact ih h.tail ht'
 have h2:=h.2 t ht;exact⟨h1,by omega⟩
theorem sP {L:List T} (hL:aK L) {t:T} (ht:t∈L):(cY L [t]).length<L.length:=by
 have ht':=hL.2 t ht;have hf:=cW hL (dH ht')
 have hm:=iR hL ht;have key:cY L [t]=L.filter (fun s=> !eF s.m t.m):=by
  refine lI hf.1 ⟨hL.1.filter _,fun s hs=>hL.2 s (List.mem_filter.1 hs).1⟩ (fun m hmo=>?_);rw[hf.2 m];by_cases e:t.m=m
  ·subst e;have h1:aM [t] t.m=t.c:=bO _ _
   rw[h1,hm.1];have h2:aM (L.filter (fun s=> !eF s.m t.m)) t.m=0:=by
    by_cases hz:aM (L.filter (fun s=> !eF s.m t.m)) t.m=0
    ·exact hz
    ·obtain⟨s,hs,he⟩:=List.mem_map.1 (mD hz);have:=(List.mem_filter.1 hs).2
     rw[cM.2 he]at this;cases this
   rw[h2];omega
  ·have h1:aM [t] m=0:=by rw[iI e];rfl
   have hb:=bM hL m;rw[h1];have h2:aM (L.filter (fun s=> !eF s.m t.m)) m=aM L m:=by
    by_cases hz:aM L m=0
    ·rw[hz];by_cases hz2:aM (L.filter (fun s=> !eF s.m t.m)) m=0
     ·exact hz2
     ·obtain⟨s,hs,he⟩:=List.mem_map.1 (mD hz2);have h3:=(iR hL (List.mem_filter.1 hs).1).2
      rw[show s.m=m from he]at h3;exact absurd hz h3
    ·obtain⟨s,hs,he⟩:=List.mem_map.1 (mD hz);have he:s.m=m:=he
     subst he;have h4:s∈L.filter (fun s=> !eF s.m t.m):=List.mem_filter.2 ⟨hs,by rw[Jh.2 (fun e'=>e e'.symm)];rfl⟩
     rw[(iR hL hs).1,(iR (L:=L.filter (fun s=> !eF s.m t.m)) ⟨hL.1.filter _,fun s hs=>hL.2 s (List.mem_filter.1 hs).1⟩ h4).1]
   rw[h2];omega
 rw[key];refine List.length_filter_lt_length_iff_exists.2 ⟨t,ht,?_⟩;rw[cM.2 rfl];decide
theorem pQ {o:Int} {n:Nat} {ln:Nat→Nat} {f:Nat→Nat→T} (hl:aT n ln f=true) {u:Nat} {S S':Dv} (h:lA u S) (h0:S.p.length≠0) (hs:dS o n ln f S=some S'):lA (u+1) S':=by
 unfold dS at hs;split at hs
 ·exact h.take hl h0 (by assumption) hs
 ·cases hs;have:=sP (aD h.p).2 (gN (o:=o) h0)
  have h4:=(aD h.p).1;exact h.leave h0 (by omega)
theorem vZ {o:Int} {n:Nat} {ln:Nat→Nat} {f:Nat→Nat→T} (hl:aT n ln f=true):∀{v u:Nat} {S S':Dv},lA u S→eR o n ln f v S=some S'→lA (u+v) S'∧S'.p=[]
 |0,u,S,S',h,hr=>by
  unfold eR at hr;split at hr
  ·rename_i h0;cases hr;exact⟨h,List.length_eq_zero_iff.1 h0⟩
  ·cases hr
 |v+1,u,S,S',h,hr=>by
  by_cases h0:S.p.length=0
  ·rw[lG h0]at hr;cases hr;exact⟨⟨h.p,fun k=>⟨(h.q k).1,by have:=(h.q k).2;omega⟩,h.r.1,by have:=h.r.2;omega⟩,List.length_eq_zero_iff.1 h0⟩
  ·cases hs:dS o n ln f S with
   |none=>rw[vY h0 hs]at hr;cases hr
   |some S1=>
    rw[lH h0 hs]at hr;have:=vZ hl (pQ hl h h0 hs) hr
    rw[show u+(v+1)=u+1+v by omega];exact this
abbrev C2 (b1 o1:Nat) (v1:Value) (b2 o2:Nat) (v2:Value) (u:World):Prop:=u.cell? ⟨b1,o1,none⟩=some v1∧u.cell? ⟨b2,o2,none⟩=some v2
theorem C2.below {b1 o1 b2 o2:Nat} {v1 v2:Value} {u u':World} (h:C2 b1 o1 v1 b2 o2 v2 u) (hb:Below u.heap.size u u'):C2 b1 o1 v1 b2 o2 v2 u':=
 ⟨(hb.cell (p:=⟨b1,o1,none⟩) (cX u _ h.1)).trans h.1,(hb.cell (p:=⟨b2,o2,none⟩) (cX u _ h.2)).trans h.2⟩
end Go.Proofs.YtdidlcjhodejjaaGreat
