/-
  An operator that is ok falls.
  A term put into a sum, in the model.
  Sums while they are made: a map from monomials to numbers; what adding a term to it does.
-/
import Derived.Test.YtmlaedpamobmhaaGreatMae
import Derived.Maps.OwnSet
import Derived.Maps.OwnOps
import Derived.Maps.Views
import Derived.Maps.AppendAt
import Derived.Deep.Slices
set_option maxHeartbeats 2000000
set_option maxRecDepth 100000
namespace Go.Proofs.YtmlaedpamobmhaaGreat
open Go.RowKit
set_option linter.unusedVariables false
theorem dR {n:Nat} {f:Nat→T} (h:aL n f=true):Fl f n:=by
 have hp:=h;simp only[aL,decide_eq_true_eq]at hp;have h1:∀i,i<n→(f i).m.ok=true∧1≤(f i).c∧(f i).c≤100:=fun i hi=>by have:=hp.2 i hi;simp only[kG,Bool.and_eq_true,decide_eq_true_eq]at this;exact⟨this.1.2,this.1.1⟩
 refine⟨fun j i hji hi=>?_,h1⟩;induction i with
 |zero=>omega
 |succ i ih=>
  have h2:=hp.2 (i+1) hi;simp only[kG,Bool.and_eq_true,Bool.or_eq_true,decide_eq_true_eq]at h2;have h3:=h2.2.resolve_left (by omega)
  rw[show i+1-1=i by omega]at h3;have h4:=(tD (h1 i (by omega)).1 (h1 (i+1) hi).1).1 h3
  by_cases hji2:j=i
  ·rw[hji2];exact h4
  ·have:=ih (by omega) (by omega);omega
def jU (c:Int) (m:M) (L:List T):List T:=if c=0 then L else fC (lf L) L.length (fun _=>⟨c,m⟩) 1 0 0
def RM (L:List T):Prop:=∀t∈L,0≤t.c∧t.c≤100
theorem CO:RM []:=fun t ht=>by simp at ht
theorem mN {L:List T} {i:Nat} (h:i<L.length):lf L i∈L:=by unfold lf;rw[List.getD_eq_getElem?_getD,List.getElem?_eq_getElem h];exact List.getElem_mem h
theorem RM.at {L:List T} (h:RM L):∀i,i<L.length→0≤(lf L i).c∧(lf L i).c≤100:=fun i hi=>h _ (mN hi)
theorem CJ {f:Nat→T} {la:Nat} {g:Nat→T} {lb:Nat} (hf:∀i,i<la→0≤(f i).c∧(f i).c≤100) (hg:∀i,i<lb→0≤(g i).c∧(g i).c≤100):∀(u i k:Nat),RM (gS f la g lb u i k)
 |0,_,_=>by intro t ht;simp[gS]at ht
 |u+1,i,k=>by
  have a1:=CJ hf hg u (i+1) k;have a2:=CJ hf hg u i (k+1)
  have a3:=CJ hf hg u (i+1) (k+1);intro t ht;simp only[gS]at ht;split at ht
  ·rename_i hh;split at ht
   ·rcases List.mem_cons.1 ht with rfl|ht
    ·exact hf i hh.1
    ·exact a1 t ht
   ·split at ht
    ·rcases List.mem_cons.1 ht with rfl|ht
     ·exact hg k hh.2
     ·exact a2 t ht
    ·split at ht
     ·rcases List.mem_cons.1 ht with rfl|ht
      ·dsimp only;omega
      ·exact a3 t ht
     ·exact a3 t ht
  ·split at ht
   ·rename_i hh;rcases List.mem_cons.1 ht with rfl|ht
    ·exact hf i hh
    ·exact a1 t ht
   ·split at ht
    ·rename_i hh;rcases List.mem_cons.1 ht with rfl|ht
     ·exact hg k hh
     ·exact a2 t ht
    ·cases ht
theorem KD {c:Int} {m:M} {L:List T} (hL:RM L) (h0:0≤c) (h1:c≤100):RM (jU c m L):=by
 unfold jU;split
 ·exact hL
 ·exact CJ hL.at (fun _ _=>⟨h0,h1⟩) _ _ _
theorem tO (c:Int) (m:M) (L:List T):(jU c m L).length≤L.length+1:=by
 unfold jU;split
 ·omega
 ·have:=xH (lf L) L.length (fun _=>⟨c,m⟩) 1 0 0;omega
theorem VH (w:World) (t:T):Rd (w.alloc (.cells #[.int .i64 t.c,.int .i64 t.m.x,.int .i64 t.m.y,.int .i64 t.m.d,.int .i64 t.m.e] 54)) (some ⟨w.heap.size,0,none⟩) 1 1 (fun _=>t):=by
 refine⟨Nat.le_refl _,by omega,.inr ⟨w.heap.size,0,rfl,by simp,fun i hi=>?_⟩⟩;obtain rfl:i=0:=by omega
 exact⟨by rw[World.cell?_alloc_at _ _ _ _ rfl];rfl,by rw[World.cell?_alloc_at _ _ _ _ rfl];rfl,by rw[World.cell?_alloc_at _ _ _ _ rfl];rfl,by rw[World.cell?_alloc_at _ _ _ _ rfl];rfl,by rw[World.cell?_alloc_at _ _ _ _ rfl];rfl⟩
theorem CY (w:World) (lo:Nat) (v:Value) (L:List T) (c x y d e:Int) (ho:w.ownsRow lo 54 5 v L.length (aE L)) (hlo:lo≤w.heap.size) (hl:L.length≤1000) (hL:RM L) (h0:0≤c) (h1:c≤100):Calls Tryz.prog 78 #[v,.int .i64 c,.agg #[.int .i64 x,.int .i64 y,.int .i64 d,.int .i64 e]] w fun r w'=>∃v',r= .returned v'∧Below w.heap.size w w'∧w'.ownsRow lo 54 5 v' (jU c ⟨x,y,d,e⟩ L).length (aE (jU c ⟨x,y,d,e⟩ L)):=by
 by_cases hc:c=0
 ·subst hc;have e1:jU 0 ⟨x,y,d,e⟩ L=L:=by simp[jU]
  rw[e1];have HO:=aA (dZ ho (aC w (.cells #[.int .i64 x,.int .i64 y,.int .i64 d,.int .i64 e] 52)))
  clear ho e1;go_enter Tryz.func78,Tryz.ntmps78;go_wp2;go_ret;exact⟨_,rfl,aC w _,HO.out⟩
 ·have hcb:(c==0)=false:=by simp[hc]
  have e1:jU c ⟨x,y,d,e⟩ L=fC (lf L) L.length (fun _=>⟨c,⟨x,y,d,e⟩⟩) 1 0 0:=by simp[jU,hc]
  rw[e1];obtain⟨a,cap,rfl,hout⟩:=aI ho (by omega);have HR:=aA hout.1
  clear ho hout hc e1;go_enter Tryz.func78,Tryz.ntmps78;go_wp2_with fail;have ha:=aA ((HR.out.below (aC w (.cells #[.int .i64 x,.int .i64 y,.int .i64 d,.int .i64 e] 52))).below (aC _ (.cells #[.int .i64 c,.int .i64 x,.int .i64 y,.int .i64 d,.int .i64 e] 54)))
  have hb:=VH (w.alloc (.cells #[.int .i64 x,.int .i64 y,.int .i64 d,.int .i64 e] 52)) ⟨c,⟨x,y,d,e⟩⟩;have hb2:Rd ((w.alloc (.cells #[.int .i64 x,.int .i64 y,.int .i64 d,.int .i64 e] 52)).alloc (.cells #[.int .i64 c,.int .i64 x,.int .i64 y,.int .i64 d,.int .i64 e] 54)) (some ⟨w.heap.size+1,0,none⟩) 1 1 (fun _=>⟨c,⟨x,y,d,e⟩⟩):=by simpa using hb
  have hz:=aA (aB (aC w (.cells #[.int .i64 x,.int .i64 y,.int .i64 d,.int .i64 e] 52)) (aC _ (.cells #[.int .i64 c,.int .i64 x,.int .i64 y,.int .i64 d,.int .i64 e] 54)));clear hb;generalize((w.alloc (.cells #[.int .i64 x,.int .i64 y,.int .i64 d,.int .i64 e] 52)).alloc (.cells #[.int .i64 c,.int .i64 x,.int .i64 y,.int .i64 d,.int .i64 e] 54))=W at ha hb2 hz⊢;refine(pG _ _ _ _ _ _ _ (lf L) (fun _=>⟨c,⟨x,y,d,e⟩⟩) ha.out hb2 (by omega) hL.at (fun _ _=>⟨h0,h1⟩)).mono ?_;rintro r w1 ⟨v',rfl,hb1,hown⟩;have HB:=aA (aB hz.out hb1)
  have HO:=aA (JY hown (jJ hlo hz.out.size));clear hb2 hb1 hown ha hz HR;go_wp2;go_ret;exact⟨_,rfl,HB.out,HO.out⟩
open Go.RowKit Go.Maps
theorem TC:laidOutB Tryz.prog=true:=by kernel_rfl
theorem kL:Keyed Tryz.prog 52:=Keyed.of_law (deep_law_laid TC (m:=2) (by omega) (of_decide_eq_true (by kernel_rfl)) (by kernel_rfl) (by kernel_rfl))
theorem ZW {n:Int} (h0:0≤n) (h1:n≤15):(Lit.int .i64 n).wf=true:=WalkArith.wf_i64 (by omega)
def dU (m:M):Lit:=.string (keyBytes [.int .i64 m.x,.int .i64 m.y,.int .i64 m.d,.int .i64 m.e])
theorem mM {m:M} (h:m.ok=true):keyOf Tryz.prog 52 (.agg #[.int .i64 m.x,.int .i64 m.y,.int .i64 m.d,.int .i64 m.e])=some (dU m):=by
 obtain⟨x1,x2,y1,y2,d1,d2,e1,e2⟩:=M.ok_iff.1 h;have w1:=ZW x1 x2
 have w2:=ZW y1 y2;have w3:=ZW d1 d2
 have w4:=ZW e1 e2;have hk:Tryz.prog.keyType 52=true:=by kernel_rfl
 have hc:Tryz.prog.cellsOf 52=4:=by kernel_rfl
 have h1:Tryz.prog.cellsOf 3=1:=by kernel_rfl
 obtain⟨D,hD⟩:∃D,Tryz.prog.types.size+1=D+1+1:=⟨Tryz.prog.types.size-1,by have:0<Tryz.prog.types.size:=of_decide_eq_true (by kernel_rfl);omega⟩
 unfold keyOf;simp only[Tryz.underlying52,hk,hD,Value.formed,hc];simp[Program.keyLits,Tryz.underlying52,hc,h1,w1,w2,w3,w4,Value.cells,dU]
theorem WN (w:World):(zeroValue 121).run Tryz.prog w= .ok (.int .i64 0) w:=by kernel_rfl
theorem Gg {n:Int} (h0:0≤n) (h1:n≤100):(Lit.int .i64 n).wf=true:=WalkArith.wf_i64 (by omega)
theorem tH {w:World} {P:Program} {k:TypeId} {R:Value→Option (DataW Unit×List MemPlace)} {b n n':Nat} {D:DataW Unit} (h:w.ownsMap P k R b n D) (hn:n≤n'):w.ownsMap P k R b n' D:=by obtain⟨es,clock,h1,h2,h3,h4⟩:=h;exact⟨es,clock,h1,h2,jJ h3 hn,h4⟩
def EQ (D:DataW Unit) (m:M) (v:Int):DataW Unit:=if v=0 then D.del (dU m)else D.put (dU m) (.lit (.int .i64 v))
theorem Dh (b n:Nat) (D:DataW Unit) (c0 c:Int) (m:M) (w:World) (hm:m.ok=true) (hown:w.ownsMap Tryz.prog 52 (plainElem Tryz.prog 121) b n D) (hn:n<maxLen) (hat:D.atKey (dU m) (.lit (.int .i64 0))= .lit (.int .i64 c0)) (a0:0≤c0) (a1:c0≤100) (h0:0≤c) (h1:c≤100):Calls Tryz.prog 137 #[.map (some b),.int .i64 c,.agg #[.int .i64 m.x,.int .i64 m.y,.int .i64 m.d,.int .i64 m.e]] w fun e w'=>e= .returned (.tuple #[])∧w'.ownsMap Tryz.prog 52 (plainElem Tryz.prog 121) b (n+1) (EQ D m ((c0+c)%101))∧w.grownBy w' (some b):=by
 have hkey:=mM hm;have r0:0≤(c0+c)%101:=by omega
 have r1:(c0+c)%101≤100:=by omega
 have hg0:=World.grownBy_alloc w (.cells #[.int .i64 m.x,.int .i64 m.y,.int .i64 m.d,.int .i64 m.e] 52) (some b);have ho0:=hown.alloc (.cells #[.int .i64 m.x,.int .i64 m.y,.int .i64 m.d,.int .i64 m.e] 52)
 by_cases hz:(c0+c)%101=0
 ·have e1:EQ D m ((c0+c)%101)=D.del (dU m):=by simp[EQ,hz]
  rw[e1];go_enter Tryz.func137,Tryz.ntmps137
  go_wp2_with (first
   |(at_lookup;refine wpList_lookup_own_int _ rfl _ _ 123 rfl 52 121 .i64 kL Tryz.underlying123 Tryz.underlying121 (WN _) b n D rfl ho0 _ _ rfl hkey ?_;intro c1 hat1 hwc1;obtain rfl:c1=c0:=(by rw[hat]at hat1;simpa using hat1.symm))
   |(go_at_call 160;refine(Fk _ _ _ a0 a1 h0 h1).mono ?_;rintro r w2 ⟨rfl,hw⟩;obtain rfl:=hw.symm;clear hw)
   |(at_delete;refine wpList_delete_own _ rfl _ _ 123 52 rfl 121 kL Tryz.underlying123 _ b n D rfl ho0 _ _ rfl hkey ?_;intro w1 hown1 hturn1)
   |go_in)
  refine cW (results_none rfl _ _ _) rfl ?_;exact⟨rfl,tH hown1 (Nat.le_succ _),hg0.trans hturn1.grown⟩
 ·have e1:EQ D m ((c0+c)%101)=D.put (dU m) (.lit (.int .i64 ((c0+c)%101))):=by simp[EQ,hz]
  rw[e1];have hzb:((c0+c)%101==0)=false:=by simpa using hz
  go_enter Tryz.func137,Tryz.ntmps137
  go_wp2_with (first
   |(at_lookup;refine wpList_lookup_own_int _ rfl _ _ 123 rfl 52 121 .i64 kL Tryz.underlying123 Tryz.underlying121 (WN _) b n D rfl ho0 _ _ rfl hkey ?_;intro c1 hat1 hwc1;obtain rfl:c1=c0:=(by rw[hat]at hat1;simpa using hat1.symm))
   |(go_at_call 160;refine(Fk _ _ _ a0 a1 h0 h1).mono ?_;rintro r w2 ⟨rfl,hw⟩;obtain rfl:=hw.symm;clear hw)
   |(at_mapUpdate;refine wpList_mapUpdate_own _ rfl _ _ _ 123 rfl 52 121 kL Tryz.underlying123 _ b n D rfl ho0 hn _ _ _ rfl rfl hkey _ [] (plainElem_int Tryz.underlying121 (Gg r0 r1)) ?_;intro w1 hown1 hgrow1)
   |go_in)
  go_end0
  exact⟨rfl,hown1,hg0.trans hgrow1⟩
theorem sU {a b:M} (ha:a.ok=true) (hb:b.ok=true) (h:dU a=dU b):a=b:=by
 have h1:=mM ha;have h2:=mM hb
 rw[←h]at h2;have h3:=kL.inj h1 h2
 cases a;cases b;simpa using h3
def bO (w:World) (b n:Nat) (c:M→Int):Prop:=
 ∃D:DataW Unit,w.ownsMap Tryz.prog 52 (plainElem Tryz.prog 121) b n D∧(∀m,0≤c m∧c m≤100)∧
  (∀m:M,m.ok=true→D.atKey (dU m) (.lit (.int .i64 0))= .lit (.int .i64 (c m))∧(Maps.has D (dU m)=true↔c m≠0))∧(∀kl,Maps.has D kl=true→∃m:M,m.ok=true∧kl=dU m)
def Dr (a b:M):Bool:=decide (a.x=b.x∧a.y=b.y∧a.d=b.d∧a.e=b.e)
theorem fG {a b:M}:Dr a b=true↔a=b:=by cases a;cases b;simp[Dr]
def lV (c:M→Int) (m:M) (v:Int) (x:M):Int:=if Dr x m=true then(c m+v)%101 else c x
theorem CB (c:M→Int) (m:M) (v:Int):lV c m v m=(c m+v)%101:=if_pos (fG.2 rfl)
theorem zO {c:M→Int} {m x:M} {v:Int} (h:x≠m):lV c m v x=c x:=if_neg (fun e=>h (fG.1 e))
theorem bO.grown {w w':World} {b n:Nat} {c:M→Int} {row:Option Nat} (h:bO w b n c) (hg:w.grownBy w' row) (hne:some b≠row):bO w' b n c:=by
 obtain⟨D,⟨es,clock,h1,h2,h3,h4⟩,h5⟩:=h;have hlt:b<w.heap.size:=by
  rcases Nat.lt_or_ge b w.heap.size with h|h
  ·exact h
  ·rw[Array.getElem?_eq_none h]at h1;cases h1
 exact⟨D,⟨es,clock,(hg.block b hlt hne).trans h1,h2,h3,h4⟩,h5⟩
theorem EA (b n:Nat) (c:M→Int) (v:Int) (m:M) (w:World) (hm:m.ok=true) (h:bO w b n c) (hn:n<maxLen) (h0:0≤v) (h1:v≤100):Calls Tryz.prog 137 #[.map (some b),.int .i64 v,.agg #[.int .i64 m.x,.int .i64 m.y,.int .i64 m.d,.int .i64 m.e]] w fun e w'=>e= .returned (.tuple #[])∧bO w' b (n+1) (lV c m v)∧w.grownBy w' (some b):=by
 obtain⟨D,hown,hc,hat,hks⟩:=h;have hD:IsMap D:=(hown.tidy kL).isMap
 have hK:WideAt.IsKeyLit (dU m):=kL.key (mM hm);refine(Dh b n D (c m) v m w hm hown hn (hat m hm).1 (hc m).1 (hc m).2 h0 h1).mono ?_;rintro e w' ⟨rfl,ho,hg⟩;refine⟨rfl,⟨_,ho,fun x=>?_,fun x hx=>?_,fun kl hkl=>?_⟩,hg⟩
 ·unfold lV;split
  ·omega
  ·exact hc x
 ·by_cases hxm:x=m
  ·subst hxm;rw[CB];unfold EQ;split
   ·rename_i hz;rw[atKey_del_same,has_del_same,hz];exact⟨rfl,by simp⟩
   ·rename_i hz;rw[atKey_put_same hD hK,has_put_same hD hK];exact⟨rfl,by simp[hz]⟩
  ·have hne:dU x≠dU m:=fun e=>hxm (sU hx hm e);rw[zO hxm];unfold EQ;split
   ·rw[atKey_del_other hne,has_del_other hne];exact hat x hx
   ·rw[atKey_put_other hne,has_put_other hne];exact hat x hx
 ·by_cases hkm:kl=dU m
  ·exact⟨m,hm,hkm⟩
  ·unfold EQ at hkl;split at hkl
   ·rw[has_del_other hkm]at hkl;exact hks kl hkl
   ·rw[has_put_other hkm]at hkl;exact hks kl hkl
theorem vS (f:Nat→T) (m:M):∀(u i:Nat),dF f u (i+1) m=dF (fun j=>f (j+1)) u i m
 |0,_=>rfl
 |u+1,i=>by rw[dF,dF,vS f m u (i+1)]
theorem lJ (m:M):∀L:List T,dF (lf L) L.length 0 m=aM L m
 |[]=>rfl
 |t::r=>by
  have e:(fun j=>lf (t::r) (j+1))=lf r:=by funext j;simp[lf]
  have e0:lf (t::r) 0=t:=rfl;rw[List.length_cons,dF,e0,aM,vS,e,lJ m r]
theorem vQ {L:List T} (h:aK L):Fl (lf L) L.length:=by
 have at_:∀i (hi:i<L.length),lf L i=L[i]:=fun i hi=>by unfold lf;rw[List.getD_eq_getElem?_getD,List.getElem?_eq_getElem hi];rfl
 refine⟨fun j i hji hi=>?_,fun i hi=>?_⟩
 ·rw[at_ i hi,at_ j (by omega)];exact(List.pairwise_iff_getElem.1 h.1) j i (by omega) hi hji
 ·rw[at_ i hi];exact h.2 _ (List.getElem_mem hi)
theorem bZ {L:List T} (h:aK L) (m:M):0≤aM L m∧aM L m≤100:=by
 induction L with
 |nil=>simp[aM]
 |cons t r ih=>
  rw[aM];split
  ·have:=h.2 t (List.mem_cons_self ..);omega
  ·exact ih h.tail
theorem eW:aK []:=⟨List.Pairwise.nil,fun t h=>by cases h⟩
def bT (K X:List T):List T:=fC (lf K) K.length (lf X) X.length 0 0
theorem dD {K X:List T} (hK:aK K) (hX:aK X):aK (bT K X)∧∀m,aM (bT K X) m=(aM K m+aM X m)%101:=by obtain⟨_,h2,h3⟩:=jG (vQ hK) (vQ hX) (K.length-0+(X.length-0)) 0 0 (Nat.le_refl _);refine⟨h2,fun m=>(h3 m).trans ?_⟩;rw[Nat.sub_zero,Nat.sub_zero,lJ,lJ]
theorem rN {L:List T} (hL:aK L) {c:Int} {m:M} (hm:m.ok=true) (c0:0≤c) (c1:c≤100):aK (jU c m L)∧∀x,aM (jU c m L) x=lV (aM L) m c x:=by
 unfold jU;by_cases hc:c=0
 ·rw[if_pos hc];refine⟨hL,fun x=>?_⟩;unfold lV;split
  ·rename_i hx;have:=bZ hL m
   rw[fG.1 hx,hc];omega
  ·rfl
 ·rw[if_neg hc];have G:Fl (fun _=>(⟨c,m⟩:T)) 1:=⟨fun j i h1 h2=>by omega,fun i hi=>⟨hm,by show 1≤c;omega,c1⟩⟩
  obtain⟨_,h2,h3⟩:=jG (vQ hL) G (L.length-0+(1-0)) 0 0 (Nat.le_refl _);refine⟨h2,fun x=>(h3 x).trans ?_⟩;rw[Nat.sub_zero,Nat.sub_zero,lJ];show(aM L x+(if gP m x=true then c else 0))%101=_
  have hr:=bZ hL x;unfold lV;by_cases hx:x=m
  ·subst hx;rw[if_pos (cF.2 rfl),if_pos (fG.2 rfl)]
  ·rw[if_neg (fun e=>hx (cF.1 e).symm),if_neg (fun e=>hx (fG.1 e))];omega
def fR (xs:List T) (L:List T):List T:=xs.foldl (fun L t=>jU t.c t.m L) L
def kJ (c:M→Int) (xs:List T):M→Int:=xs.foldl (fun c t=>lV c t.m t.c) c
def Ed (xs:List T):Prop:=∀t∈xs,t.m.ok=true∧0≤t.c∧t.c≤100
theorem oF:∀(xs:List T) (L:List T),Ed xs→aK L→aK (fR xs L)∧aM (fR xs L)=kJ (aM L) xs
 |[],L,_,hL=>⟨hL,rfl⟩
 |t::r,L,hx,hL=>by
  have h1:=hx t (List.mem_cons_self ..);have h2:=rN hL h1.1 h1.2.1 h1.2.2
  have h3:=oF r (jU t.c t.m L) (fun s hs=>hx s (List.mem_cons_of_mem _ hs)) h2.1;refine⟨h3.1,?_⟩;show aM (fR r (jU t.c t.m L))=kJ (lV (aM L) t.m t.c) r
  rw[h3.2,funext h2.2]
theorem oS:∀(xs:List T) (c:M→Int) (m:M),Ed xs→(∀m,0≤c m∧c m≤100)→kJ c xs m=(c m+kJ (fun _=>0) xs m)%101
 |[],c,m,_,hc=>by
  have:=hc m;show c m=(c m+0)%101
  omega
 |t::r,c,m,hx,hc=>by
  have h1:=hx t (List.mem_cons_self ..);have hr:∀(d:M→Int),(∀m,0≤d m∧d m≤100)→∀m,0≤lV d t.m t.c m∧lV d t.m t.c m≤100:=fun d hd m=>by
   unfold lV;split
   ·omega
   ·exact hd m
  have hz:∀m:M,(0:Int)≤(fun _=>0:M→Int) m∧(fun _=>0:M→Int) m≤100:=fun _=>⟨Int.le_refl _,by show(0:Int)≤100;decide⟩
  have e1:=oS r (lV c t.m t.c) m (fun s hs=>hx s (List.mem_cons_of_mem _ hs)) (hr c hc);have e2:=oS r (lV (fun _=>0) t.m t.c) m (fun s hs=>hx s (List.mem_cons_of_mem _ hs)) (hr _ hz)
  show kJ (lV c t.m t.c) r m=(c m+kJ (lV (fun _=>0) t.m t.c) r m)%101;rw[e1,e2];unfold lV;by_cases hx:m=t.m
  ·subst hx;rw[if_pos (fG.2 rfl),if_pos (fG.2 rfl)];clear e1 e2;dsimp only;omega
  ·rw[if_neg (fun e=>hx (fG.1 e)),if_neg (fun e=>hx (fG.1 e))];clear e1 e2;dsimp only;omega
def iK:Option (List T)→List T×Bool
 |some K=>(K,true)
 |none=>([],false)
theorem uG {L:List T} (h:aK L):RM L:=fun t ht=>by have:=h.2 t ht;omega
def nG (f:Nat→T) (n:Nat):Prop:=∀i,i<n→(f i).m.ok=true∧0≤(f i).c∧(f i).c≤100
theorem cB {n:Nat} {f:Nat→T} (h:aL n f=true):n≤400∧nG f n:=by
 have hp:=h;simp only[aL,decide_eq_true_eq]at hp;refine⟨hp.1,fun i hi=>?_⟩;have:=(dR h).2 i hi
 exact⟨this.1,by omega,this.2.2⟩
theorem GI {n:Nat} {f:Nat→T} (h:aL n f=true) {i:Nat} (hi:i<n):(f i).m.ok=true∧0≤(f i).c∧(f i).c≤100:=by have:=(dR h).2 i hi;exact⟨this.1,by omega,this.2.2⟩
open Go.RowKit Go.Deep Go.Joins
end Go.Proofs.YtmlaedpamobmhaaGreat
