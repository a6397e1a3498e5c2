/-
  Sums and differences of two operators.
-/
import Derived.Test.YtelkehjdfcoeiaaGreatNak
set_option maxHeartbeats 4000000
set_option maxRecDepth 100000
namespace Go.Proofs.YtelkehjdfcoeiaaGreat
open Go.RowKit Go.Maps Go.Sort Go.Shelf
set_option linter.unusedVariables false
theorem aV.range {w:World} {b n:Nat} {c:M→Int} (h:aV w b n c):∀m,0≤c m∧c m≤100:=by obtain⟨D,_,hc,_⟩:=h;exact hc
theorem tM (w:World):aV (w.alloc (.map #[] 0)) w.heap.size 0 (fun _=>0):=
 ⟨.map [],World.ownsMap_made w _ _ _,fun _=>⟨Int.le_refl _,by show(0:Int)≤100;decide⟩,fun m _=>⟨rfl,by simp[Maps.has]⟩,fun kl h=>by simp[Maps.has]at h⟩
theorem Rd.apart {w:World} {a:Option Addr} {n cap:Nat} {f:Nat→T} (h:Rd w a n cap f) {b:Nat} (hb:w.heap.size≤b):n=0∨∀b' off,a=some ⟨b',off,none⟩→some b'≠some b:=by
 rcases h.2.2 with h0|⟨pb,off,rfl,hlt,_⟩
 ·exact .inl h0
 ·exact .inr (fun b' off' e e'=>by cases e;cases e';omega)
def xJ (K:List T):List T×Bool:=if K.length≤400 then(K,true)else([],false)
theorem GR (w:World) (b n:Nat) (c:M→Int) (h:aV w b n c) (hn:n≤1000000) {K:List T} (hK:aH K) (hKc:∀m,m.ok=true→aI K m=c m):Calls Tryz.prog 66 #[.map (some b)] w fun e w'=>∃v,e= .returned (.tuple #[v,.bool (xJ K).2])∧Below w.heap.size w w'∧w'.ownsRow w.heap.size 86 5 v (xJ K).1.length (aE (xJ K).1):=by
 by_cases h400:K.length≤400
 ·have e:xJ K=(K,true):=if_pos h400;rw[e];exact VN RN w b n c h hn hK hKc h400
 ·have e:xJ K=([],false):=if_neg h400;rw[e];refine(VM RN w b n c h hn hK hKc h400).mono ?_;rintro r w5 ⟨rfl,hb5⟩;exact⟨_,rfl,hb5,iW w5 _⟩
theorem OZ (n:Int) (w:World):(Instr.makeMap 95 (some (.int .i64 n))).run Tryz.prog w= .ok (.map (some w.heap.size)) (w.alloc (.map #[] 0)):=by have hu:=run_underlying (P:=Tryz.prog) Tryz.underlying95;unfold Instr.makeMap;simp[hu,asInt,go_sem,Sem.run_bind,Result.andThen]
def xE (k:Int) (f:Nat→T) (la:Nat) (g:Nat→T) (lb:Nat) (K:List T):List T×Bool:=if aK la f=true∧aK lb g=true∧K.length≤400 then(K,true)else([],false)
theorem AG (w:World) (a b:Option Addr) (la ca lb cb:Nat) (f g:Nat→T) (k:Int) (k0:0≤k) (k1:k≤100) (ha:Rd w a la ca f) (hb:Rd w b lb cb g) (K:List T) (hK:aK la f=true→aK lb g=true→aH K∧∀m,m.ok=true→aI K m=fT k g (fT 1 f (fun _=>0) la) lb m):Calls Tryz.prog 172 #[.slice a la ca,.int .i64 k,.slice b lb cb] w fun r w'=>∃v,r= .returned (.tuple #[v,.bool (xE k f la g lb K).2])∧Below w.heap.size w w'∧w'.ownsRow w.heap.size 86 5 v (xE k f la g lb K).1.length (aE (xE k f la g lb K).1):=by
 have HA:=aA ha;have HB:=aA hb
 have hla:(la:Int)≤140737488351232:=by have:=ha.2.1;omega
 have hlb:(lb:Int)≤140737488351232:=by have:=hb.2.1;omega
 clear ha hb;cases hpa:aK la f
 ·have e1:xE k f la g lb K=([],false):=by simp[xE,hpa]
  rw[e1];go_enter Tryz.func172,Tryz.ntmps172;go_wp2_with (go_at_call 52;refine(dZ _ _ _ _ f HA.out).mono ?_;rw[hpa];rintro r w1 ⟨rfl,hb1⟩;have HB1:=aA hb1;clear hb1);refine cV (results_tmp2 rfl _ _ _) rfl ?_;exact⟨_,rfl,HB1.out,iW w1 _⟩
 ·cases hpb:aK lb g
  ·have e1:xE k f la g lb K=([],false):=by simp[xE,hpb]
   rw[e1];go_enter Tryz.func172,Tryz.ntmps172
   go_wp2_with (first
    |(go_at_call_of 52 (Value.slice a la ca);refine(dZ _ _ _ _ f HA.out).mono ?_;rw[hpa];rintro r w1 ⟨rfl,hb1⟩;have HB1:=aA hb1;clear hb1)
    |(go_at_call_of 52 (Value.slice b lb cb);refine(dZ _ _ _ _ g (HB.out.below HB1.out)).mono ?_;rw[hpb];rintro r w2 ⟨rfl,hb2⟩;have HB2:=aA hb2;clear hb2))
   refine cV (results_tmp2 rfl _ _ _) rfl ?_;exact⟨_,rfl,aB HB1.out HB2.out,iW w2 _⟩
  ·obtain⟨hKf,hKc⟩:=hK hpa hpb;have F:=dR hpa
   have G:=dR hpb;have HF:=aA F
   have HG:=aA G;have l1:la≤400:=by simp only[aK,decide_eq_true_eq]at hpa;exact hpa.1
   have l2:lb≤400:=by simp only[aK,decide_eq_true_eq]at hpb;exact hpb.1
   have hmk:=OZ;have e2:xE k f la g lb K=xJ K:=by simp[xE,xJ,hpa,hpb]
   rw[e2];clear F G e2 hK;go_enter Tryz.func172,Tryz.ntmps172
   go_wp2_with (first
    |(go_at_call_of 52 (Value.slice a la ca);refine(dZ _ _ _ _ f HA.out).mono ?_;rw[hpa];rintro r w1 ⟨rfl,hb1⟩;have HB1:=aA hb1;clear hb1)
    |(go_at_call_of 52 (Value.slice b lb cb);refine(dZ _ _ _ _ g (HB.out.below HB1.out)).mono ?_;rw[hpb];rintro r w2 ⟨rfl,hb2⟩;have HB2:=aA (aB HB1.out hb2);clear hb2)
    |(go_at_call_of 137 (Value.slice a la ca);refine(oE _ w2.heap.size 0 _ 1 a la ca f (tM w2) ((HA.out.below HB2.out).below (aC w2 _)) ((HA.out.below HB2.out).apart (Nat.le_refl _)) (fun i hi=>(HF.out.2 i hi).1) (fun i hi=>by have:=HF.out.2 i hi;omega) (by omega) (by omega) (by omega) (by simp)).mono ?_;rintro r w3 ⟨rfl,hs3,hg3⟩;have HS3:=aA hs3;have HG3:=aA ((World.grownBy_alloc w2 (.map #[] 0) (some w2.heap.size)).trans hg3);clear hs3 hg3)
    |(go_at_call_of 137 (Value.slice b lb cb);refine(oE _ w2.heap.size (0+la) _ k b lb cb g HS3.out ((HB.out.below HB2.out).grown HG3.out ((HB.out.below HB2.out).apart (Nat.le_refl _))) ((HB.out.below HB2.out).apart (Nat.le_refl _)) (fun i hi=>(HG.out.2 i hi).1) (fun i hi=>by have:=HG.out.2 i hi;omega) k0 k1 (by omega) (by obtain⟨D,ho,_⟩:=HS3.out;exact ho.lt)).mono ?_;rintro r w4 ⟨rfl,hs4,hg4⟩;have HS4:=aA hs4;have HG4:=aA (HG3.out.trans hg4);clear hs4 hg4))
   have hlo:w.heap.size≤w2.heap.size:=HB2.out.size;have hB4:Below w.heap.size w w4:=HB2.out.grown HG4.out hlo (fun k' e=>by cases e;exact hlo)
   refine(GR _ _ _ _ HS4.out (by omega) hKf hKc).mono ?_;rintro r w5 ⟨v,rfl,hb5,ho5⟩;go_wp2;refine cV (results_tmp2 rfl _ _ _) rfl ?_;exact⟨_,rfl,hB4.trans (hb5.mono hB4.size),gD ho5 hB4.size⟩
theorem tU {f g:Nat→T} (r:Int→Int) (hr:r 0=0) {m:M}:∀(u i:Nat),(∀j,i≤j→j<i+u→(g j).m=(f j).m∧(g j).c=r (f j).c)→cD g u i m=r (cD f u i m)
 |0,_,_=>hr.symm
 |u+1,i,h=>by have h0:=h i (Nat.le_refl _) (by omega);rw[cD,cD,h0.1,h0.2,tU r hr u (i+1) (fun j h1 h2=>h j (by omega) (by omega))];split<;>rfl
theorem YH {g:Nat→T} {lb:Nat} (G:Fl g lb):Fl (uE g lb) lb:=by
 refine⟨fun j i hji hi=>?_,fun i hi=>?_⟩
 ·unfold uE;rw[vN _ _ _ _ hi,vN _ _ _ _ (by omega)];exact G.1 j i hji hi
 ·have h:=G.2 i hi;unfold uE;rw[vN _ _ _ _ hi];refine⟨h.1,?_,?_⟩
  ·show 1≤100*(g i).c%101;omega
  ·show 100*(g i).c%101≤100;omega
theorem QB {f g:Nat→T} {la lb:Nat} (hpa:aK la f=true) (hpb:aK lb g=true):aH (fG f la (uE g lb) lb 0 0)∧∀m,m.ok=true→aI (fG f la (uE g lb) lb 0 0) m=fT 100 g (fT 1 f (fun _=>0) la) lb m:=by
 obtain⟨_,h2,h3⟩:=jV (dR hpa) (YH (dR hpb)) (la-0+(lb-0)) 0 0 (Nat.le_refl _);refine⟨h2,fun m _=>?_⟩;rw[VO (dR hpa) (dR hpb)]
 have h4:=tU (f:=g) (g:=uE g lb) (fun c=>100*c%101) rfl (m:=m) lb 0 (fun j _ hj=>by
  unfold uE;rw[vN _ _ _ _ (by omega)]
  exact⟨rfl,rfl⟩)
 refine(h3 m).trans ?_;rw[Nat.sub_zero,Nat.sub_zero,h4];omega
theorem JF (w:World) (a b:Option Addr) (la ca lb cb:Nat) (f g:Nat→T) (ha:Rd w a la ca f) (hb:Rd w b lb cb g):Calls Tryz.prog 144 #[.slice a la ca,.slice b lb cb] w fun r w'=>∃a' cap',r= .returned (.tuple #[.slice a' (iO f la g lb).1.length cap',.bool (iO f la g lb).2])∧Below w.heap.size w w'∧gX w.heap.size w' a' cap' (iO f la g lb).1:=by
 have hc:=AG w a b la ca lb cb f g 100 (by omega) (by omega) ha hb (fG f la (uE g lb) lb 0 0) QB;have e:xE 100 f la g lb (fG f la (uE g lb) lb 0 0)=iO f la g lb:=rfl
 rw[e]at hc;have hlen:=vY f la g lb
 generalize iO f la g lb=r at *;obtain⟨L,ok⟩:=r;go_enter Tryz.func144,Tryz.ntmps144;go_wp2_with (go_at_call 172;refine hc.mono ?_;rintro r w1 ⟨v,rfl,hb1,ho1⟩);refine cV (results_tmp2 rfl _ _ _) rfl ?_;obtain⟨a',cap',rfl,hout⟩:=aM ho1 (by omega);exact⟨a',cap',rfl,hb1,hout⟩
end Go.Proofs.YtelkehjdfcoeiaaGreat
namespace Go.Proofs.YtelkehjdfcoeiaaGreat
open Go.RowKit
set_option linter.unusedVariables false
theorem LT (w:World) (lo:Nat):w.ownsRow lo 86 5 (.slice none 0 0) 0 (aE []):=⟨rfl,.inl ⟨rfl,rfl⟩⟩
theorem RD {w w':World} {b:Nat} {v0 v1 v2 v3 v4:Value} (hb:Below w.heap.size w w') (h:w.cell? ⟨b,0,none⟩=some v0∧w.cell? ⟨b,1,none⟩=some v1∧w.cell? ⟨b,2,none⟩=some v2∧w.cell? ⟨b,3,none⟩=some v3∧w.cell? ⟨b,4,none⟩=some v4):w'.cell? ⟨b,0,none⟩=some v0∧w'.cell? ⟨b,1,none⟩=some v1∧w'.cell? ⟨b,2,none⟩=some v2∧w'.cell? ⟨b,3,none⟩=some v3∧w'.cell? ⟨b,4,none⟩=some v4:=by have hl:b<w.heap.size:=cQ w _ h.1;exact⟨(hb.cell (p:=⟨b,0,none⟩) hl).trans h.1,(hb.cell (p:=⟨b,1,none⟩) hl).trans h.2.1,(hb.cell (p:=⟨b,2,none⟩) hl).trans h.2.2.1,(hb.cell (p:=⟨b,3,none⟩) hl).trans h.2.2.2.1,(hb.cell (p:=⟨b,4,none⟩) hl).trans h.2.2.2.2⟩
def NK (w:World) (X:List T×Bool) (e:Ending) (w':World):Prop:=∃a' c',e= .returned (.tuple #[.slice a' X.1.length c',.bool X.2])∧Below w.heap.size w w'∧RL w' a' c' X.1
def ZH (w:World) (X:List T) (e:Ending) (w':World):Prop:=∃a' c',e= .returned (.slice a' X.length c')∧Below w.heap.size w w'∧RL w' a' c' X
theorem DW {w:World} {a:Option Addr} {n cap:Nat} {f g:Nat→T} (h:Rd w a n cap f) (e:∀i,i<n→f i=g i):Rd w a n cap g:=
 ⟨h.1,h.2.1,h.2.2.imp id (fun⟨b,off,h1,h2,h3⟩=>⟨b,off,h1,h2,fun i hi=>by rw[←e i hi];exact h3 i hi⟩)⟩
theorem fQ (w:World) (t:T):RL (w.alloc (.cells #[.int .i64 t.c,.int .i64 t.m.x,.int .i64 t.m.y,.int .i64 t.m.d,.int .i64 t.m.e] 86)) (some ⟨w.heap.size,0,none⟩) 1 [t]:=
 DW (n:=1) (g:=lf [t]) (QQ w t) (fun i hi=>by
  have h0:i=0:=by omega
  subst h0
  rfl)
theorem EV {w:World} {X:List T×Bool} {e:Ending} {w':World} (hl:X.1.length≤400) (h:∃v,e= .returned (.tuple #[v,.bool X.2])∧Below w.heap.size w w'∧w'.ownsRow w.heap.size 86 5 v X.1.length (aE X.1)):NK w X e w':=by obtain⟨v,h1,h2,h3⟩:=h;obtain⟨a',c',rfl,h4⟩:=aM h3 (by omega);exact⟨a',c',h1,h2,h4.1⟩
theorem PO {w:World} {X:List T} {e:Ending} {w':World} (hl:X.length≤400) (h:∃v,e= .returned v∧Below w.heap.size w w'∧w'.ownsRow w.heap.size 86 5 v X.length (aE X)):ZH w X e w':=by obtain⟨v,h1,h2,h3⟩:=h;obtain⟨a',c',rfl,h4⟩:=aM h3 (by omega);exact⟨a',c',h1,h2,h4.1⟩
variable {w:World} {a b:Option Addr} {ca cb:Nat} {L K:List T}
end Go.Proofs.YtelkehjdfcoeiaaGreat
namespace Go.Proofs.YtelkehjdfcoeiaaGreat
open Go.RowKit
set_option linter.unusedVariables false
attribute [local go_sem] Oper.semAt_some
def cZ (W W':World):Prop:=W.heap.size≤W'.heap.size∧∀(k:Nat) (o:Obj),W.heap[k]? =some o→o.isCells=true→W'.heap[k]? =some o
theorem tP (W:World):cZ W W:=⟨Nat.le_refl _,fun _ _ h _=>h⟩
theorem cN {A B C:World} (h:cZ A B) (k:cZ B C):cZ A C:=⟨gW h.1 k.1,fun i o hi ho=>k.2 i o (h.2 i o hi ho) ho⟩
theorem qN {w:World} (W:World) (l:Nat) (o o':Obj) (_:w.heap.size≤l) (h:W.heap[l]? =some o) (hc:o.isCells=false) (_:o.isWalk=false):cZ W (W.putObj l o'):=
 ⟨by rw[World.putObj_size];exact Nat.le_refl _,fun k o2 hk hc2=>(World.putObj_heap_other (fun e=>by subst e;rw[h]at hk;cases hk;rw[hc]at hc2;cases hc2)).trans hk⟩
theorem bV (W:World) (o:Obj):cZ W (W.alloc o):=⟨by simp,fun k o2 hk _=>(Below.heap_alloc W o k (Array.getElem?_eq_some_iff.1 hk).1).trans hk⟩
theorem tO (W:World):cZ W W.drew:=⟨Nat.le_refl _,fun _ _ h _=>h⟩
theorem qO {W W':World} {row:Option Nat} (hg:W.grownBy W' row) (hr:∀k,row=some k→∀o,W.heap[k]? =some o→o.isCells=false):cZ W W':=
 ⟨hg.size,fun k o hk hc=>(hg.block k (Array.getElem?_eq_some_iff.1 hk).1 (fun e=>by have:=hr k e.symm o hk;rw[this]at hc;cases hc)).trans hk⟩
theorem dP {W W':World} {B:Nat} {t:TypeId} {v:Value} (h:Boxed W B t v) (hk:cZ W W'):Boxed W' B t v:=hk.2 B _ h rfl
theorem WK (w:World):w.grownBy w.drew none:=⟨rfl,rfl,rfl,Nat.le_refl _,fun _ _ _=>rfl⟩
abbrev TK (lim:Nat):Type:={p:Int×Int // 0≤p.1∧p.1≤(lim:Int)∧0≤p.2∧p.2≤100}
def KX {lim:Nat} (x:TK lim):Array Value:=#[.int .i64 x.1.1,.int .i64 x.1.2]
def wy (s t k:Int):Int:=nT (dQ s k) (iG t k)
theorem pM (a b:Int):0≤nT a b∧nT a b≤100:=by unfold nT;split<;>omega
def sD (lim:Nat) (s t:Int) (k:Nat):TK lim:=⟨((if k≤lim then(k:Int)else 0),wy s t k),by
 have:=pM (dQ s k) (iG t k);refine⟨?_,?_,this.1,this.2⟩
 ·show 0≤(if k≤lim then(k:Int)else 0);split<;>omega
 ·show(if k≤lim then(k:Int)else 0)≤_
  split<;>omega⟩
def mF (lim:Nat) (s t:Int) (k:Nat):List (TK lim):=(List.range k).map (sD lim s t)
theorem wV (lim:Nat) (s t:Int) (k:Nat):mF lim s t k++[sD lim s t k]=mF lim s t (k+1):=by simp[mF,List.range_succ]
theorem MU (lim:Nat) (s t:Int) (k:Nat):(mF lim s t k).length=k:=by simp[mF]
theorem YU {n:Nat} (hn:1≤n) (l B1 B2:Nat) (s t:Int) (lim:Nat) (s0:0≤s) (s1:s≤15) (t0:0≤t) (t1:t≤15) (hl:(lim:Int)=min s t) (J Jx:List (TK lim)→World→Prop) (hJd:∀pre W,J pre W→J pre W.drew) (hY:∀pre x W,J pre W→pre.length<lim+1→YieldAt Fence.wide (n-1) Tryz.prog l (KX x) W fun e W'=>(e= .returned (.bool true)∧J (pre++[x]) W'∧cZ W W')∨(e= .returned (.bool false)∧Jx (pre++[x]) W')) (W:World) (hb1:Boxed W B1 3 (.int .i64 s)) (hb2:Boxed W B2 3 (.int .i64 t)) (h0:J [] W):CallsIn Fence.wide n Tryz.prog 174 #[.func (.yield l) #[] #[],.pointer (some ⟨B1,0,none⟩),.pointer (some ⟨B2,0,none⟩)] W fun e W'=>(∃v,e= .returned v)∧((∃xs,xs=mF lim s t (lim+1)∧J xs W')∨(∃pre,True∧Jx pre W')):=by
 refine callsIn_of_wp Tryz.func174 rfl trivial ?_ rfl;simp only[Tryz.ntmps174,List.size_toArray,List.length_cons,List.length_nil,Nat.reduceAdd,Nat.reduceSub,Array.replicate_succ,Array.replicate_zero,List.push_toArray,List.append_toArray,List.nil_append,List.cons_append];have c1:=hb1.cell
 have c2:=hb2.cell
 gi_wp2
 all_goals
  gi_loopw [10] (fun v wr=>∃k:Nat,k≤lim+1∧v= .int .i64 (k:Int)∧J (mF lim s t k) wr∧Boxed wr B1 3 (.int .i64 s)∧Boxed wr B2 3 (.int .i64 t)) (fun v _=>(lim+1)-(RowKit.intOf v).toNat)
  case atStart=>
   exact⟨0,Nat.zero_le _,rfl,h0,hb1,hb2⟩
  case round=>
   obtain⟨k,hk,rfl,hJ,b1,b2⟩:=hrel;have c1:=b1.cell
   have c2:=b2.cell;by_cases hlt:k≤lim
   ·have hk1:(k:Int)≤s:=by omega
    have hk2:(k:Int)≤t:=by omega
    have hYk:=hY (mF lim s t k) (sD lim s t k) _ (hJd _ _ hJ) (by rw[MU];omega);rw[wV]at hYk;have ek:KX (sD lim s t k)=#[.int .i64 (k:Int),.int .i64 (wy s t k)]:=by simp[KX,sD,hlt]
    rw[ek]at hYk;have hw:nT (dQ s k) (iG t k)=wy s t k:=rfl
    obtain⟨fn,tmps,assign,body,hy,hRd⟩:=hYk
    gi_wp2_with fail
    refine(wpIn_wide (n:=n)).2 ?_
    go_region_with (first
     |(go_at_call 175;refine(TF _ _ _).mono ?_;rintro e w' ⟨rfl,hw'⟩;obtain rfl:=hw'.symm;clear hw')
     |(go_at_call 176;refine(ZT _ _ _).mono ?_;rintro e w' ⟨rfl,hw'⟩;obtain rfl:=hw'.symm;clear hw')
     |(go_at_call 55;refine(Ct _ _ _).mono ?_;rw[hw];rintro e w' ⟨rfl,hw'⟩;obtain rfl:=hw'.symm;clear hw'))
    all_goals
     gi_wp2
     refine hRd.mono ?_;rintro e W3 (⟨rfl,hJ3,hk3⟩|⟨rfl,hJx3⟩)
     ·gi_wp2
      go_roundw;case rel=>exact⟨k+1,by omega,by go_num,hJ3,dP (W:=wr.drew) b1 hk3,dP (W:=wr.drew) b2 hk3⟩
      case measure=>simp[RowKit.intOf];omega
     ·gi_wp2
      refine cV (results_none rfl _ _ _) rfl ?_;exact⟨⟨_,rfl⟩,.inr ⟨_,trivial,hJx3⟩⟩
   ·have hk3:k=lim+1:=by omega
    subst hk3
    gi_wp2
    go_end0
    exact⟨⟨_,rfl⟩,.inl ⟨_,rfl,hJ⟩⟩
theorem wO {n:Nat} (hn:1≤n) (B1 B2:Nat) (s t:Int) (lim:Nat) (s0:0≤s) (s1:s≤15) (t0:0≤t) (t1:t≤15) (hl:(lim:Int)=min s t) (w:World) (hb1:Boxed w B1 3 (.int .i64 s)) (hb2:Boxed w B2 3 (.int .i64 t)):SeqStopsK Fence.wide n Tryz.prog 174 #[.pointer (some ⟨B1,0,none⟩),.pointer (some ⟨B2,0,none⟩)] KX cZ (fun xs=>xs=mF lim s t (lim+1)) (fun _=>True) (lim+1) w:=fun l J Jx W hW hJ _ hY h0=>
 YU hn l B1 B2 s t lim s0 s1 t0 t1 hl J Jx (fun pre W h=>hJ pre W W.drew none h (WK W) (fun r e=>by cases e)) hY W ((hW.block B1 hb1.lt).trans hb1) ((hW.block B2 hb2.lt).trans hb2) h0
theorem SD {F:Fence} {n:Nat} (h7:F.fn 147) (hro:F.round=none) (s t:Int) (w:World):CallsIn F n Tryz.prog 147 #[.int .i64 s,.int .i64 t] w fun e w'=>e= .returned (.func (.func 174) #[] #[.pointer (some ⟨w.heap.size,0,none⟩),.pointer (some ⟨w.heap.size+1,0,none⟩)])∧w'=(w.alloc (.cells #[.int .i64 s] 3)).alloc (.cells #[.int .i64 t] 3):=by
 refine callsIn_of_wp Tryz.func147 rfl h7 ?_ hro;simp only[Tryz.ntmps147,List.size_toArray,List.length_cons,List.length_nil,Nat.reduceAdd,Nat.reduceSub,Array.replicate_succ,Array.replicate_zero,List.push_toArray,List.append_toArray,List.nil_append,List.cons_append]
 gi_wp2
 go_ret;exact⟨rfl,rfl⟩
end Go.Proofs.YtelkehjdfcoeiaaGreat
namespace Go.Proofs.YtelkehjdfcoeiaaGreat
open Go.RowKit
set_option linter.unusedVariables false
theorem MM {m m':Nat} {P:Program} {l:Nat} {f:FuncId} {tmps:Array Value} {assign body:Code} {w:World} {R:Ending→World→Prop} (h:RoundIn Fence.wide m P l f tmps assign body w R):RoundIn Fence.wide m' P l f tmps assign body w R:=⟨h.1,fun c cs _=>h.2 c cs (room_wide _)⟩
theorem nF {W W':World} {row:Option Nat} {B:Nat} (hg:W.grownBy W' row) (hr:∀r,row=some r→B≤r) {k:Nat} {o:Obj} (hk:W.heap[k]? =some o) (hkB:k<B):W'.heap[k]? =some o:=
 (hg.block k (Array.getElem?_eq_some_iff.1 hk).1 (fun e=>by have:=hr k e.symm;omega)).trans hk
theorem rG {B B':Nat} {W W':World} (h:KeepsFrom B W W') (hB:B≤B'):KeepsFrom B' W W':=⟨h.size,fun k o hk=>h.same k o (gW hB hk)⟩
def WW {α:Type} (P:Program) (g:Nat) (lb:Array Value) (encs:α→Array Value) (xs:List α) (w:World):Prop:=
 ∀(l:Nat) (J:List α→World→Prop) (W:World),Below w.heap.size w W→OwnFrom W.heap.size J→
  (∀pre x W1,J pre W1→YieldAt Fence.wide 0 P l (encs x) W1 fun e W'=>e= .returned (.bool true)∧J (pre++[x]) W'∧cZ W1 W'∧KeepsFrom W.heap.size W1 W')→
  J [] W→Calls P g (#[.func (.yield l) #[] #[]]++lb) W fun e W'=>(∃v,e= .returned v)∧J xs W'
theorem YJ {α:Type} {P:Program} {n:Nat} {g:Operand} {ps:Array Tmp} {assign body:Code} {Q:Exit→Act→World→Prop} {a:Act} {w:World} (h1:1≤n) {gf:Nat} {lb:Array Value} (hg:a.eval g= .func (.func gf) #[] lb) (eg:∀args w,(callFunc gf args).run P w= .ok (.enter gf args) w) {encs:α→Array Value} {xs:List α} {w0:World} (hseq:WW P gf lb encs xs w0) (hb0:Below w0.heap.size w0 w) (hps:∀x,(encs x).size=ps.size) (I:List α→World→Prop) (hI:OwnFrom w.heap.size I) (h0:I [] w) (Ax:α→Act→World→Prop) (hAx:∀x a',OwnFrom w.heap.size (fun(_:Unit) W=>Ax x a' W)) (hassign:∀(l:Nat) (pre:List α) (x:α) (W:World) (K:Act→World→Prop),I pre W→(∀a' W',KeepsFrom w.heap.size W W'→cZ W W'→I pre W'→Ax x a' W'→K a' W')→assign.wpIn (Fence.wide.inRound l) 0 P (Exit.then K (fun _ _ _=>False)) {tmps:=(ps.zip (encs x)).foldl (fun t (p,v)=>t.setIfInBounds p v) a.tmps,defers:=[]} W) (hbody:∀(l:Nat) (pre:List α) (x:α) (a':Act) (W:World),I pre W→Ax x a' W→body.wpIn (Fence.wide.inRound l) 0 P (fun e _ W'=>e= .normal∧KeepsFrom w.heap.size W W'∧cZ W W'∧I (pre++[x]) W') a' W) (hdone:∀(D:Nat) (W:World),w.heap.size≤D→I xs W→W.heap[D]? =some (.deferred (some []))→Q .normal {a with defers:={target:=.collected D,args:=#[]}::a.defers} W):(Code.rangeFunc g ps assign body).wpIn Fence.wide n P Q a w:=by
 refine wpIn_rangeFunc ?_;intro fn hfn;obtain⟨rec,hrec⟩:∃rec:LoopState→Option Code→Loop,rec=fun st pe=>{state:=st,pending:=pe,fn,tmps:=a.tmps,params:=ps,assign,body,defers:=w.heap.size}:=⟨_,rfl⟩
 obtain⟨W1,hW1⟩:∃W1,(w.alloc (.deferred (some []))).alloc (.loop (rec .ready none))=W1:=⟨_,rfl⟩
 have hs1:W1.heap.size=w.heap.size+2:=by rw[←hW1];simp
 have hL1:W1.heap[w.heap.size+1]? =some (.loop (rec .ready none)):=by
  rw[←hW1];have:=World.alloc_heap_new (w.alloc (.deferred (some []))) (.loop (rec .ready none))
  rwa[World.size_alloc]at this
 have hK1:W1.heap[w.heap.size]? =some (.deferred (some [])):=by rw[←hW1];exact(Below.heap_alloc _ _ _ (by simp)).trans (World.alloc_heap_new w _)
 have hI1:I [] W1:=by rw[←hW1];exact hI.alloc _ (hI.alloc _ h0)
 have hb1:Below w0.heap.size w0 W1:=by rw[←hW1];exact hb0.trans ((((bQ _ w).alloc (Nat.le_refl _) _).alloc (by simp) _).mono hb0.size)
 refine⟨w.heap.size+1,[{target:=.collected w.heap.size,args:=#[]}],W1,{target:=.fn (.func gf) lb,args:=#[.func (.yield (w.heap.size+1)) #[] #[]]},W1,gf,
  #[.func (.yield (w.heap.size+1)) #[] #[]]++lb,W1,?_,?_,?_,?_,fun _=>h1,?_⟩
 ·rw[←hW1,hrec];exact run_enterLoop_outer _ _ _ _ _
 ·simp only[resolve,hg];simp[go_sem]
 ·intro f' _;exact trivial
 ·simp[invoke,go_sem,eg]
 ·refine callsIn_wide.2 ((hseq (w.heap.size+1) (fun pre W=>I pre W∧W.heap[w.heap.size+1]? =some (.loop (rec .ready none))∧W.heap[w.heap.size]? =some (.deferred (some []))) W1 hb1
   (fun s A B row hs hg' hr=>⟨hI s A B row hs.1 hg' (fun r e=>⟨by have:=(hr r e).1;omega,(hr r e).2⟩),nF hg' (B:=W1.heap.size) (fun r e=>(hr r e).1) hs.2.1 (by omega),nF hg' (B:=W1.heap.size) (fun r e=>(hr r e).1) hs.2.2 (by omega)⟩)
   ?_ ⟨hI1,hL1,hK1⟩).mono ?_)
  ·rintro pre x W ⟨hi,hl,hk⟩;have hy:=run_yield (P:=P) (args:=encs x) hl (by rw[hrec];exact hps x)
   rw[hrec]at hy;refine⟨fn,_,assign,body,hy,roundIn_of_wpIn hfn (hassign _ pre x W _ hi ?_)⟩;clear hy;intro a' Wa hkfa hkpa hia hax;have hla:=hkfa.same _ _ (by omega) hl rfl
   have hka:=hkfa.same _ _ (Nat.le_refl _) hk rfl;have hlt:w.heap.size+1<Wa.heap.size:=(Array.getElem?_eq_some_iff.1 hla).1
   refine⟨_,run_beginRound hla (by rw[hrec]),?_⟩;have hl2:(Wa.putObj (w.heap.size+1) (.loop {rec .ready none with state:=.busy})).heap[w.heap.size+1]? =some (.loop {rec .ready none with state:=.busy}):=World.putObj_heap_same hlt
   have hk2:(Wa.putObj (w.heap.size+1) (.loop {rec .ready none with state:=.busy})).heap[w.heap.size]? =some (.deferred (some [])):=(World.putObj_heap_other (by omega)).trans hka
   have hw2:cZ Wa (Wa.putObj (w.heap.size+1) (.loop {rec .ready none with state:=.busy})):=qN (w:=w) _ _ _ _ (by omega) hla rfl rfl;refine wpIn_mono (hbody _ pre x a' _ (hI.putObj _ hia (by omega) hla rfl) ((hAx x a').putObj (s:=()) _ hax (by omega) hla rfl)) ?_;rintro e a3 W3 ⟨rfl,hk3,hkp3,hi3⟩;have hl3:=hk3.same _ _ (by omega) hl2 rfl
   have hr:=run_endRound (P:=P) none hl3;refine⟨_,_,hr,rfl,⟨hI.putObj _ hi3 (by omega) hl3 rfl,?_,(World.putObj_heap_other (by omega)).trans (hk3.same _ _ (Nat.le_refl _) hk2 rfl)⟩,cN hkpa (cN (cN hw2 hkp3) (qN (w:=w) _ _ _ _ (by omega) hl3 rfl rfl)),(rG hkfa (by omega)).trans ((KeepsFrom.of_grownBy (grownBy_putObj' Wa (w.heap.size+1) (.loop {rec .ready none with state:=.busy})) (fun j e=>by cases e;omega)).trans ((rG hk3 (by omega)).trans (KeepsFrom.of_grownBy (grownBy_putObj' W3 (w.heap.size+1) _) (fun j e=>by cases e;omega))))⟩;rw[hrec];exact World.putObj_heap_same (Array.getElem?_eq_some_iff.1 hl3).1
  ·rintro e W2 ⟨⟨v,rfl⟩,hi,hl,hk⟩;refine⟨none,_,by have:=run_endLoop (P:=P) hl (by rw[hrec];simp);rw[hrec]at this;exact this,hdone _ _ (Nat.le_refl _) (hI.putObj _ hi (by omega) hl rfl) ((World.putObj_heap_other (by omega)).trans hk)⟩
open Go.RowKit Go.Maps
attribute [local go_sem] Oper.semAt_some
abbrev TO:Type:={t:T // t.m.ok=true∧0≤t.c∧t.c≤100}
def XI (x:TO):Array Value:=#[.agg #[.int .i64 x.1.c,.int .i64 x.1.m.x,.int .i64 x.1.m.y,.int .i64 x.1.m.d,.int .i64 x.1.m.e]]
def lH (c:M→Int) (xs:List TO):M→Int:=xs.foldl (fun c t=>kM c t.1.m t.1.c) c
theorem BS (c:M→Int) (xs:List TO) (x:TO):lH c (xs++[x])=kM (lH c xs) x.1.m x.1.c:=by simp[lH]
theorem nU {α β:Type} (k:Nat) (f:α→List β) (h:∀x,(f x).length=k):∀l:List α,(l.flatMap f).length=l.length*k
 |[]=>by simp
 |x::r=>by rw[List.flatMap_cons,List.length_append,h,nU k f h r,List.length_cons,Nat.add_mul];omega
def bZ (W:World) (Bx:Nat) (t:T):Prop:=W.heap[Bx]? =some (.cells #[.int .i64 t.c,.int .i64 t.m.x,.int .i64 t.m.y,.int .i64 t.m.d,.int .i64 t.m.e] 86 (0,0))
theorem bZ.cells {W:World} {Bx:Nat} {t:T} (h:bZ W Bx t):W.cell? ⟨Bx,0,none⟩=some (.int .i64 t.c)∧W.cell? ⟨Bx,1,none⟩=some (.int .i64 t.m.x)∧W.cell? ⟨Bx,2,none⟩=some (.int .i64 t.m.y)∧W.cell? ⟨Bx,3,none⟩=some (.int .i64 t.m.d)∧W.cell? ⟨Bx,4,none⟩=some (.int .i64 t.m.e):=by unfold bZ at h;refine⟨?_,?_,?_,?_,?_⟩<;>(unfold World.cell?;simp only[h];rfl)
theorem sW {B Bx:Nat} {o:Obj} (ho:o.isCells=true) {X Y:World} {row:Option Nat} (h:X.heap[Bx]? =some o) (hg:X.grownBy Y row) (hr:∀r,row=some r→B≤r∧∃o:Obj,X.heap[r]? =some o∧o.isCells=false):Y.heap[Bx]? =some o:=
 (hg.block Bx (Array.getElem?_eq_some_iff.1 h).1 (fun e=>by obtain⟨_,o',ho',hc⟩:=hr Bx e.symm;rw[h]at ho';cases ho';rw[ho]at hc;cases hc)).trans h
def allM:List M:=(List.range 16).flatMap fun(x:Nat)=>(List.range 16).flatMap fun(y:Nat)=>(List.range 16).flatMap fun(d:Nat)=>(List.range 16).map fun(e:Nat)=>(⟨(x:Int),(y:Int),(d:Int),(e:Int)⟩:M)
theorem NO:allM.length=65536:=by unfold allM;rw[nU (16*(16*16)) _ (fun x=>by rw[nU (16*16) _ (fun y=>by rw[nU 16 _ (fun d=>by simp)];simp)];simp)];simp
theorem NP {m:M} (h:m.ok=true):m∈allM:=by obtain⟨x1,x2,y1,y2,d1,d2,e1,e2⟩:=M.ok_iff.1 h;unfold allM;refine List.mem_flatMap.2 ⟨m.x.toNat,List.mem_range.2 (by omega),List.mem_flatMap.2 ⟨m.y.toNat,List.mem_range.2 (by omega),List.mem_flatMap.2 ⟨m.d.toNat,List.mem_range.2 (by omega),List.mem_map.2 ⟨m.e.toNat,List.mem_range.2 (by omega),?_⟩⟩⟩⟩;cases m;simp only at x1 y1 d1 e1⊢;rw[Int.toNat_of_nonneg x1,Int.toNat_of_nonneg y1,Int.toNat_of_nonneg d1,Int.toNat_of_nonneg e1]
theorem aV.cap {w:World} {b n:Nat} {c:M→Int} (h:aV w b n c):aV w b 65536 c:=by
 obtain⟨D,hown,hc,hat,hks⟩:=h;have hs:Maps.size D≤65536:=by rw[←NO];exact AR hown allM (fun kl hkl=>by obtain⟨m,hm,rfl⟩:=hks kl hkl;exact⟨m,NP hm,rfl⟩)
 refine⟨D,?_,hc,hat,hks⟩;obtain⟨es,clock,h1,h2,h3,h4⟩:=hown;subst h4;rw[size_eq,length_read]at hs;exact⟨es,clock,h1,h2,hs,rfl⟩
theorem aV.lt {w:World} {b n:Nat} {c:M→Int} (h:aV w b n c):b<w.heap.size:=by obtain⟨D,ho,_⟩:=h;exact ho.lt
theorem aV.map {w:World} {b n:Nat} {c:M→Int} (h:aV w b n c):∀o,w.heap[b]? =some o→o.isCells=false:=by obtain⟨D,⟨es,clock,h1,_⟩,_⟩:=h;intro o ho;rw[h1]at ho;cases ho;rfl
theorem xZ {w W W':World} {b:Nat} {row:Option Nat} (h:w.grownBy W (some b)) (hg:W.grownBy W' row) (hr:∀r,row=some r→w.heap.size≤r):w.grownBy W' (some b):=
 ⟨hg.os.trans h.os,hg.tape.trans h.tape,hg.output.trans h.output,gW h.size hg.size,fun k hk hne=>(hg.block k (iZ hk h.size) (fun e=>by have:=hr k e.symm;omega)).trans (h.block k hk hne)⟩
theorem TU (w:World) (b:Nat) (c:M→Int) (h:aV w b 65536 c) (g:Nat) (lb:Array Value) (eg:∀args w,(callFunc g args).run Tryz.prog w= .ok (.enter g args) w) (xs:List TO) (hseq:WW Tryz.prog g lb XI xs w):Calls Tryz.prog 107 #[.map (some b),.func (.func g) #[] lb] w fun e w'=>e= .returned (.tuple #[])∧aV w' b 65536 (lH c xs)∧w.grownBy w' (some b):=by
 have hblt:=h.lt;have HS:=aA h
 have HQ:=aA hseq;clear h hseq;refine(callsIn_wide (n:=9)).1 ?_;refine callsIn_of_wp_marks Tryz.func107 rfl trivial ?_ rfl;simp only[Tryz.ntmps107,List.size_toArray,List.length_cons,List.length_nil,Nat.reduceAdd,Nat.reduceSub,Array.replicate_succ,Array.replicate_zero,List.push_toArray,List.append_toArray,List.nil_append,List.cons_append]
 gi_wp2
 have bs:=Boxed.new w 95 (.map (some b));have hg0:=World.grownBy_alloc w (.cells #[.map (some b)] 95) (some b)
 have hS0:=HS.out.grown (World.grownBy_alloc w (.cells #[.map (some b)] 95) none) (by simp);have hbw:Below w.heap.size w (w.alloc (.cells #[.map (some b)] 95)):=(bQ _ w).alloc (Nat.le_refl _) _
 have hs0:(w.alloc (.cells #[.map (some b)] 95)).heap.size=w.heap.size+1:=by simp
 generalize w.alloc (.cells #[.map (some b)] 95)=W0 at *
 refine YJ (by decide) (gf:=g) (lb:=lb) rfl eg HQ.out hbw (fun _=>rfl)
  (fun(pre:List TO) W=>aV W b 65536 (lH c pre)∧(Boxed W w.heap.size 95 (.map (some b))∧w.grownBy W (some b)))
  (OwnFrom.and (fun s X Y row hs hg hr=>hs.grown hg (fun e=>by have:=(hr b e.symm).1;omega)) (OwnFrom.and (Own.from (boxed_own _ _ (fun _=>Value.map (some b))) _) (fun s X Y row hs hg hr=>xZ hs hg (fun r e=>by have:=(hr r e).1;omega))))
  ⟨hS0,bs,hg0⟩
  (fun x a' W=>∃Bx,bZ W Bx x.1∧a'=({tmps:=#[.map (some b),.func (.func g) #[] lb,.pointer (some ⟨w.heap.size,0,none⟩),undef,.pointer (some ⟨Bx,0,none⟩),.func (.func g) #[] lb,.agg #[.int .i64 x.1.c,.int .i64 x.1.m.x,.int .i64 x.1.m.y,.int .i64 x.1.m.d,.int .i64 x.1.m.e],undef,undef,undef,undef,undef,undef],defers:=[]}:Act))
  (fun x a' _ X Y row hs hg hr=>by obtain⟨Bx,h2,h3⟩:=hs;exact⟨Bx,sW rfl h2 hg hr,h3⟩)
  ?assign ?body ?done
 case assign=>
  rintro l pre x W K' ⟨hS,bS,hgW⟩ hK';obtain⟨t,ht⟩:=x;dsimp only[XI]at hK'⊢
  gi_wp2
  exact hK' _ _ ((KeepsOthers.alloc _ _).from _) (bV _ _) ⟨hS.grown (World.grownBy_alloc W _ none) (by simp),bS.alloc _,hgW.trans (World.grownBy_alloc W _ (some b))⟩ ⟨W.heap.size,World.alloc_heap_new W _,rfl⟩
 case body=>
  rintro l pre x a' W ⟨hS,bS,hgW⟩ ⟨Bx,hX,rfl⟩;obtain⟨t,hto,htc,htc'⟩:=x;dsimp only at hX⊢;obtain⟨x0,x1,x2,x3,x4⟩:=hX.cells;have cS:=bS.cell
  have HSS:=aA hS;clear hS
  gi_wp2_with (first
   |(refine⟨trivial,rfl,?_⟩;gi_at_call 145;(refine(CallsIn.inRound l (callsIn_wide.2 (AX b 65536 _ t.c t.m W hto HSS.out (by unfold maxLen;omega) htc htc'))).mono ?_;rintro e w' ⟨rfl,hs',hg'⟩))
   |gi_in)
  have hk:cZ W w':=qO hg' (fun k e o ho=>by cases e;exact HSS.out.map o ho);refine⟨KeepsFrom.of_grownBy hg' (fun j e=>by cases e;omega),hk,?_,dP bS hk,hgW.trans hg'⟩;rw[BS];exact hs'.cap
 case done=>
  rintro D W hD ⟨hS,bS,hgW⟩ hKd
  gi_wp2
  refine⟨by simp,.inl ⟨_,_,rfl,run_takeDeferred hKd,?_⟩⟩;exact⟨_,results_none rfl _ _ _,rfl,hS.grown (grownBy_putObj' W D (.deferred none)) (fun e=>by cases e;omega),xZ hgW (grownBy_putObj' W D (.deferred none)) (fun r e=>by cases e;omega)⟩
end Go.Proofs.YtelkehjdfcoeiaaGreat
