/-
  An operator that is ok falls.
  A term put into a sum, in the model.
  Sums while they are made: a map from monomials to numbers; what adding a term to it does.
-/
import Derived.Test.YtncffcaabnjioaaGreatMae
import Derived.Maps.OwnSet
import Derived.Maps.OwnOps
import Derived.Maps.Views
import Derived.Maps.AppendAt
import Derived.Deep.Slices
set_option maxHeartbeats 2000000
set_option maxRecDepth 100000
namespace Go.Proofs.YtncffcaabnjioaaGreat
open Go.RowKit
set_option linter.unusedVariables false
theorem dE {n:Nat} {f:Nat→T} (h:aN n f=true):Fl f n:=by
 have hp:=h;simp only[aN,decide_eq_true_eq]at hp;have h1:∀i,i<n→(f i).m.ok=true∧1≤(f i).c∧(f i).c≤100:=fun i hi=>by have:=hp.2 i hi;simp only[jQ,Bool.and_eq_true,decide_eq_true_eq]at this;exact⟨this.1.2,this.1.1⟩
 refine⟨fun j i hji hi=>?_,h1⟩;induction i with
 |zero=>omega
 |succ i ih=>
  have h2:=hp.2 (i+1) hi;simp only[jQ,Bool.and_eq_true,Bool.or_eq_true,decide_eq_true_eq]at h2;have h3:=h2.2.resolve_left (by omega)
  rw[show i+1-1=i by omega]at h3;have h4:=(sE (h1 i (by omega)).1 (h1 (i+1) hi).1).1 h3
  by_cases hji2:j=i
  ·rw[hji2];exact h4
  ·have:=ih (by omega) (by omega);omega
def jD (c:Int) (m:M) (L:List T):List T:=if c=0 then L else eI (lf L) L.length (fun _=>⟨c,m⟩) 1 0 0
def NC (L:List T):Prop:=∀t∈L,0≤t.c∧t.c≤100
theorem zW:NC []:=fun t ht=>by simp at ht
theorem lV {L:List T} {i:Nat} (h:i<L.length):lf L i∈L:=by unfold lf;rw[List.getD_eq_getElem?_getD,List.getElem?_eq_getElem h];exact List.getElem_mem h
theorem NC.at {L:List T} (h:NC L):∀i,i<L.length→0≤(lf L i).c∧(lf L i).c≤100:=fun i hi=>h _ (lV hi)
theorem zT {f:Nat→T} {la:Nat} {g:Nat→T} {lb:Nat} (hf:∀i,i<la→0≤(f i).c∧(f i).c≤100) (hg:∀i,i<lb→0≤(g i).c∧(g i).c≤100):∀(u i k:Nat),NC (gD f la g lb u i k)
 |0,_,_=>by intro t ht;simp[gD]at ht
 |u+1,i,k=>by
  have a1:=zT hf hg u (i+1) k;have a2:=zT hf hg u i (k+1)
  have a3:=zT hf hg u (i+1) (k+1);intro t ht;simp only[gD]at ht;split at ht
  ·rename_i hh;split at ht
   ·rcases List.mem_cons.1 ht with rfl|ht
    ·exact hf i hh.1
    ·exact a1 t ht
   ·split at ht
    ·rcases List.mem_cons.1 ht with rfl|ht
     ·exact hg k hh.2
     ·exact a2 t ht
    ·split at ht
     ·rcases List.mem_cons.1 ht with rfl|ht
      ·dsimp only;omega
      ·exact a3 t ht
     ·exact a3 t ht
  ·split at ht
   ·rename_i hh;rcases List.mem_cons.1 ht with rfl|ht
    ·exact hf i hh
    ·exact a1 t ht
   ·split at ht
    ·rename_i hh;rcases List.mem_cons.1 ht with rfl|ht
     ·exact hg k hh
     ·exact a2 t ht
    ·cases ht
theorem GA {c:Int} {m:M} {L:List T} (hL:NC L) (h0:0≤c) (h1:c≤100):NC (jD c m L):=by
 unfold jD;split
 ·exact hL
 ·exact zT hL.at (fun _ _=>⟨h0,h1⟩) _ _ _
theorem sK (c:Int) (m:M) (L:List T):(jD c m L).length≤L.length+1:=by
 unfold jD;split
 ·omega
 ·have:=vS (lf L) L.length (fun _=>⟨c,m⟩) 1 0 0;omega
theorem QO (w:World) (t:T):Rd (w.alloc (.cells #[.int .i64 t.c,.int .i64 t.m.x,.int .i64 t.m.y,.int .i64 t.m.d,.int .i64 t.m.e] 47)) (some ⟨w.heap.size,0,none⟩) 1 1 (fun _=>t):=by
 refine⟨Nat.le_refl _,by omega,.inr ⟨w.heap.size,0,rfl,by simp,fun i hi=>?_⟩⟩;obtain rfl:i=0:=by omega
 exact⟨by rw[World.cell?_alloc_at _ _ _ _ rfl];rfl,by rw[World.cell?_alloc_at _ _ _ _ rfl];rfl,by rw[World.cell?_alloc_at _ _ _ _ rfl];rfl,by rw[World.cell?_alloc_at _ _ _ _ rfl];rfl,by rw[World.cell?_alloc_at _ _ _ _ rfl];rfl⟩
theorem AF (w:World) (lo:Nat) (v:Value) (L:List T) (c x y d e:Int) (ho:w.ownsRow lo 47 5 v L.length (aF L)) (hlo:lo≤w.heap.size) (hl:L.length≤1000) (hL:NC L) (h0:0≤c) (h1:c≤100):Calls Tryz.prog 121 #[v,.int .i64 c,.agg #[.int .i64 x,.int .i64 y,.int .i64 d,.int .i64 e]] w fun r w'=>∃v',r= .returned v'∧Below w.heap.size w w'∧w'.ownsRow lo 47 5 v' (jD c ⟨x,y,d,e⟩ L).length (aF (jD c ⟨x,y,d,e⟩ L)):=by
 by_cases hc:c=0
 ·subst hc;have e1:jD 0 ⟨x,y,d,e⟩ L=L:=by simp[jD]
  rw[e1];have HO:=aA (dW ho (aC w (.cells #[.int .i64 x,.int .i64 y,.int .i64 d,.int .i64 e] 45)))
  clear ho e1;go_enter Tryz.func121,Tryz.ntmps121;go_wp2;go_ret;exact⟨_,rfl,aC w _,HO.out⟩
 ·have hcb:(c==0)=false:=by simp[hc]
  have e1:jD c ⟨x,y,d,e⟩ L=eI (lf L) L.length (fun _=>⟨c,⟨x,y,d,e⟩⟩) 1 0 0:=by simp[jD,hc]
  rw[e1];obtain⟨a,cap,rfl,hout⟩:=aH ho (by omega);have HR:=aA hout.1
  clear ho hout hc e1;go_enter Tryz.func121,Tryz.ntmps121;go_wp2_with fail;have ha:=aA ((HR.out.below (aC w (.cells #[.int .i64 x,.int .i64 y,.int .i64 d,.int .i64 e] 45))).below (aC _ (.cells #[.int .i64 c,.int .i64 x,.int .i64 y,.int .i64 d,.int .i64 e] 47)))
  have hb:=QO (w.alloc (.cells #[.int .i64 x,.int .i64 y,.int .i64 d,.int .i64 e] 45)) ⟨c,⟨x,y,d,e⟩⟩;have hb2:Rd ((w.alloc (.cells #[.int .i64 x,.int .i64 y,.int .i64 d,.int .i64 e] 45)).alloc (.cells #[.int .i64 c,.int .i64 x,.int .i64 y,.int .i64 d,.int .i64 e] 47)) (some ⟨w.heap.size+1,0,none⟩) 1 1 (fun _=>⟨c,⟨x,y,d,e⟩⟩):=by simpa using hb
  have hz:=aA (aB (aC w (.cells #[.int .i64 x,.int .i64 y,.int .i64 d,.int .i64 e] 45)) (aC _ (.cells #[.int .i64 c,.int .i64 x,.int .i64 y,.int .i64 d,.int .i64 e] 47)));clear hb;generalize((w.alloc (.cells #[.int .i64 x,.int .i64 y,.int .i64 d,.int .i64 e] 45)).alloc (.cells #[.int .i64 c,.int .i64 x,.int .i64 y,.int .i64 d,.int .i64 e] 47))=W at ha hb2 hz⊢;refine(oS _ _ _ _ _ _ _ (lf L) (fun _=>⟨c,⟨x,y,d,e⟩⟩) ha.out hb2 (by omega) hL.at (fun _ _=>⟨h0,h1⟩)).mono ?_;rintro r w1 ⟨v',rfl,hb1,hown⟩;have HB:=aA (aB hz.out hb1)
  have HO:=aA (FX hown (jW hlo hz.out.size));clear hb2 hb1 hown ha hz HR;go_wp2;go_ret;exact⟨_,rfl,HB.out,HO.out⟩
open Go.RowKit Go.Maps
theorem OS:laidOutB Tryz.prog=true:=by kernel_rfl
theorem jZ:Keyed Tryz.prog 45:=Keyed.of_law (deep_law_laid OS (m:=2) (by omega) (of_decide_eq_true (by kernel_rfl)) (by kernel_rfl) (by kernel_rfl))
theorem VT {n:Int} (h0:0≤n) (h1:n≤15):(Lit.int .i64 n).wf=true:=WalkArith.wf_i64 (by omega)
def dK (m:M):Lit:=.string (keyBytes [.int .i64 m.x,.int .i64 m.y,.int .i64 m.d,.int .i64 m.e])
theorem lU {m:M} (h:m.ok=true):keyOf Tryz.prog 45 (.agg #[.int .i64 m.x,.int .i64 m.y,.int .i64 m.d,.int .i64 m.e])=some (dK m):=by
 obtain⟨x1,x2,y1,y2,d1,d2,e1,e2⟩:=M.ok_iff.1 h;have w1:=VT x1 x2
 have w2:=VT y1 y2;have w3:=VT d1 d2
 have w4:=VT e1 e2;have hk:Tryz.prog.keyType 45=true:=by kernel_rfl
 have hc:Tryz.prog.cellsOf 45=4:=by kernel_rfl
 have h1:Tryz.prog.cellsOf 3=1:=by kernel_rfl
 obtain⟨D,hD⟩:∃D,Tryz.prog.types.size+1=D+1+1:=⟨Tryz.prog.types.size-1,by have:0<Tryz.prog.types.size:=of_decide_eq_true (by kernel_rfl);omega⟩
 unfold keyOf;simp only[Tryz.underlying45,hk,hD,Value.formed,hc];simp[Program.keyLits,Tryz.underlying45,hc,h1,w1,w2,w3,w4,Value.cells,dK]
theorem SM (w:World):(zeroValue 81).run Tryz.prog w= .ok (.int .i64 0) w:=by kernel_rfl
theorem Aj {n:Int} (h0:0≤n) (h1:n≤100):(Lit.int .i64 n).wf=true:=WalkArith.wf_i64 (by omega)
theorem sH {w:World} {P:Program} {k:TypeId} {R:Value→Option (DataW Unit×List MemPlace)} {b n n':Nat} {D:DataW Unit} (h:w.ownsMap P k R b n D) (hn:n≤n'):w.ownsMap P k R b n' D:=by obtain⟨es,clock,h1,h2,h3,h4⟩:=h;exact⟨es,clock,h1,h2,jW h3 hn,h4⟩
def CG (D:DataW Unit) (m:M) (v:Int):DataW Unit:=if v=0 then D.del (dK m)else D.put (dK m) (.lit (.int .i64 v))
theorem YF (b n:Nat) (D:DataW Unit) (c0 c:Int) (m:M) (w:World) (hm:m.ok=true) (hown:w.ownsMap Tryz.prog 45 (plainElem Tryz.prog 81) b n D) (hn:n<maxLen) (hat:D.atKey (dK m) (.lit (.int .i64 0))= .lit (.int .i64 c0)) (a0:0≤c0) (a1:c0≤100) (h0:0≤c) (h1:c≤100):Calls Tryz.prog 132 #[.map (some b),.int .i64 c,.agg #[.int .i64 m.x,.int .i64 m.y,.int .i64 m.d,.int .i64 m.e]] w fun e w'=>e= .returned (.tuple #[])∧w'.ownsMap Tryz.prog 45 (plainElem Tryz.prog 81) b (n+1) (CG D m ((c0+c)%101))∧w.grownBy w' (some b):=by
 have hkey:=lU hm;have r0:0≤(c0+c)%101:=by omega
 have r1:(c0+c)%101≤100:=by omega
 have hg0:=World.grownBy_alloc w (.cells #[.int .i64 m.x,.int .i64 m.y,.int .i64 m.d,.int .i64 m.e] 45) (some b);have ho0:=hown.alloc (.cells #[.int .i64 m.x,.int .i64 m.y,.int .i64 m.d,.int .i64 m.e] 45)
 by_cases hz:(c0+c)%101=0
 ·have e1:CG D m ((c0+c)%101)=D.del (dK m):=by simp[CG,hz]
  rw[e1];go_enter Tryz.func132,Tryz.ntmps132
  go_wp2_with (first
   |(at_lookup;refine wpList_lookup_own_int _ rfl _ _ 77 rfl 45 81 .i64 jZ Tryz.underlying77 Tryz.underlying81 (SM _) b n D rfl ho0 _ _ rfl hkey ?_;intro c1 hat1 hwc1;obtain rfl:c1=c0:=(by rw[hat]at hat1;simpa using hat1.symm))
   |(go_at_call 158;refine(ZX _ _ _ a0 a1 h0 h1).mono ?_;rintro r w2 ⟨rfl,hw⟩;obtain rfl:=hw.symm;clear hw)
   |(at_delete;refine wpList_delete_own _ rfl _ _ 77 45 rfl 81 jZ Tryz.underlying77 _ b n D rfl ho0 _ _ rfl hkey ?_;intro w1 hown1 hturn1)
   |go_in)
  refine cB (results_none rfl _ _ _) rfl ?_;exact⟨rfl,sH hown1 (Nat.le_succ _),hg0.trans hturn1.grown⟩
 ·have e1:CG D m ((c0+c)%101)=D.put (dK m) (.lit (.int .i64 ((c0+c)%101))):=by simp[CG,hz]
  rw[e1];have hzb:((c0+c)%101==0)=false:=by simpa using hz
  go_enter Tryz.func132,Tryz.ntmps132
  go_wp2_with (first
   |(at_lookup;refine wpList_lookup_own_int _ rfl _ _ 77 rfl 45 81 .i64 jZ Tryz.underlying77 Tryz.underlying81 (SM _) b n D rfl ho0 _ _ rfl hkey ?_;intro c1 hat1 hwc1;obtain rfl:c1=c0:=(by rw[hat]at hat1;simpa using hat1.symm))
   |(go_at_call 158;refine(ZX _ _ _ a0 a1 h0 h1).mono ?_;rintro r w2 ⟨rfl,hw⟩;obtain rfl:=hw.symm;clear hw)
   |(at_mapUpdate;refine wpList_mapUpdate_own _ rfl _ _ _ 77 rfl 45 81 jZ Tryz.underlying77 _ b n D rfl ho0 hn _ _ _ rfl rfl hkey _ [] (plainElem_int Tryz.underlying81 (Aj r0 r1)) ?_;intro w1 hown1 hgrow1)
   |go_in)
  go_end0
  exact⟨rfl,hown1,hg0.trans hgrow1⟩
theorem rZ {a b:M} (ha:a.ok=true) (hb:b.ok=true) (h:dK a=dK b):a=b:=by
 have h1:=lU ha;have h2:=lU hb
 rw[←h]at h2;have h3:=jZ.inj h1 h2
 cases a;cases b;simpa using h3
def bD (w:World) (b n:Nat) (c:M→Int):Prop:=
 ∃D:DataW Unit,w.ownsMap Tryz.prog 45 (plainElem Tryz.prog 81) b n D∧(∀m,0≤c m∧c m≤100)∧
  (∀m:M,m.ok=true→D.atKey (dK m) (.lit (.int .i64 0))= .lit (.int .i64 (c m))∧(Maps.has D (dK m)=true↔c m≠0))∧(∀kl,Maps.has D kl=true→∃m:M,m.ok=true∧kl=dK m)
def YP (a b:M):Bool:=decide (a.x=b.x∧a.y=b.y∧a.d=b.d∧a.e=b.e)
theorem eN {a b:M}:YP a b=true↔a=b:=by cases a;cases b;simp[YP]
def lD (c:M→Int) (m:M) (v:Int) (x:M):Int:=if YP x m=true then(c m+v)%101 else c x
theorem zJ (c:M→Int) (m:M) (v:Int):lD c m v m=(c m+v)%101:=if_pos (eN.2 rfl)
theorem xR {c:M→Int} {m x:M} {v:Int} (h:x≠m):lD c m v x=c x:=if_neg (fun e=>h (eN.1 e))
theorem bD.grown {w w':World} {b n:Nat} {c:M→Int} {row:Option Nat} (h:bD w b n c) (hg:w.grownBy w' row) (hne:some b≠row):bD w' b n c:=by
 obtain⟨D,⟨es,clock,h1,h2,h3,h4⟩,h5⟩:=h;have hlt:b<w.heap.size:=by
  rcases Nat.lt_or_ge b w.heap.size with h|h
  ·exact h
  ·rw[Array.getElem?_eq_none h]at h1;cases h1
 exact⟨D,⟨es,clock,(hg.block b hlt hne).trans h1,h2,h3,h4⟩,h5⟩
theorem BO (b n:Nat) (c:M→Int) (v:Int) (m:M) (w:World) (hm:m.ok=true) (h:bD w b n c) (hn:n<maxLen) (h0:0≤v) (h1:v≤100):Calls Tryz.prog 132 #[.map (some b),.int .i64 v,.agg #[.int .i64 m.x,.int .i64 m.y,.int .i64 m.d,.int .i64 m.e]] w fun e w'=>e= .returned (.tuple #[])∧bD w' b (n+1) (lD c m v)∧w.grownBy w' (some b):=by
 obtain⟨D,hown,hc,hat,hks⟩:=h;have hD:IsMap D:=(hown.tidy jZ).isMap
 have hK:WideAt.IsKeyLit (dK m):=jZ.key (lU hm);refine(YF b n D (c m) v m w hm hown hn (hat m hm).1 (hc m).1 (hc m).2 h0 h1).mono ?_;rintro e w' ⟨rfl,ho,hg⟩;refine⟨rfl,⟨_,ho,fun x=>?_,fun x hx=>?_,fun kl hkl=>?_⟩,hg⟩
 ·unfold lD;split
  ·omega
  ·exact hc x
 ·by_cases hxm:x=m
  ·subst hxm;rw[zJ];unfold CG;split
   ·rename_i hz;rw[atKey_del_same,has_del_same,hz];exact⟨rfl,by simp⟩
   ·rename_i hz;rw[atKey_put_same hD hK,has_put_same hD hK];exact⟨rfl,by simp[hz]⟩
  ·have hne:dK x≠dK m:=fun e=>hxm (rZ hx hm e);rw[xR hxm];unfold CG;split
   ·rw[atKey_del_other hne,has_del_other hne];exact hat x hx
   ·rw[atKey_put_other hne,has_put_other hne];exact hat x hx
 ·by_cases hkm:kl=dK m
  ·exact⟨m,hm,hkm⟩
  ·unfold CG at hkl;split at hkl
   ·rw[has_del_other hkm]at hkl;exact hks kl hkl
   ·rw[has_put_other hkm]at hkl;exact hks kl hkl
end Go.Proofs.YtncffcaabnjioaaGreat
namespace Go.Proofs.YtncffcaabnjioaaGreat
open Go.RowKit
set_option linter.unusedVariables false
theorem uM (f:Nat→T) (m:M):∀(u i:Nat),cK f u (i+1) m=cK (fun j=>f (j+1)) u i m
 |0,_=>rfl
 |u+1,i=>by rw[cK,cK,uM f m u (i+1)]
theorem kT (m:M):∀L:List T,cK (lf L) L.length 0 m=aL L m
 |[]=>rfl
 |t::r=>by
  have e:(fun j=>lf (t::r) (j+1))=lf r:=by funext j;simp[lf]
  have e0:lf (t::r) 0=t:=rfl;rw[List.length_cons,cK,e0,aL,uM,e,kT m r]
theorem uK {L:List T} (h:aK L):Fl (lf L) L.length:=by
 have at_:∀i (hi:i<L.length),lf L i=L[i]:=fun i hi=>by unfold lf;rw[List.getD_eq_getElem?_getD,List.getElem?_eq_getElem hi];rfl
 refine⟨fun j i hji hi=>?_,fun i hi=>?_⟩
 ·rw[at_ i hi,at_ j (by omega)];exact(List.pairwise_iff_getElem.1 h.1) j i (by omega) hi hji
 ·rw[at_ i hi];exact h.2 _ (List.getElem_mem hi)
theorem bR {L:List T} (h:aK L) (m:M):0≤aL L m∧aL L m≤100:=by
 induction L with
 |nil=>simp[aL]
 |cons t r ih=>
  rw[aL];split
  ·have:=h.2 t (List.mem_cons_self ..);omega
  ·exact ih h.tail
theorem eT:aK []:=⟨List.Pairwise.nil,fun t h=>by cases h⟩
def cF (K X:List T):List T:=eI (lf K) K.length (lf X) X.length 0 0
theorem cV {K X:List T} (hK:aK K) (hX:aK X):aK (cF K X)∧∀m,aL (cF K X) m=(aL K m+aL X m)%101:=by obtain⟨_,h2,h3⟩:=iQ (uK hK) (uK hX) (K.length-0+(X.length-0)) 0 0 (Nat.le_refl _);refine⟨h2,fun m=>(h3 m).trans ?_⟩;rw[Nat.sub_zero,Nat.sub_zero,kT,kT]
theorem qX {L:List T} (hL:aK L) {c:Int} {m:M} (hm:m.ok=true) (c0:0≤c) (c1:c≤100):aK (jD c m L)∧∀x,aL (jD c m L) x=lD (aL L) m c x:=by
 unfold jD;by_cases hc:c=0
 ·rw[if_pos hc];refine⟨hL,fun x=>?_⟩;unfold lD;split
  ·rename_i hx;have:=bR hL m
   rw[eN.1 hx,hc];omega
  ·rfl
 ·rw[if_neg hc];have G:Fl (fun _=>(⟨c,m⟩:T)) 1:=⟨fun j i h1 h2=>by omega,fun i hi=>⟨hm,by show 1≤c;omega,c1⟩⟩
  obtain⟨_,h2,h3⟩:=iQ (uK hL) G (L.length-0+(1-0)) 0 0 (Nat.le_refl _);refine⟨h2,fun x=>(h3 x).trans ?_⟩;rw[Nat.sub_zero,Nat.sub_zero,kT];show(aL L x+(if gB m x=true then c else 0))%101=_
  have hr:=bR hL x;unfold lD;by_cases hx:x=m
  ·subst hx;rw[if_pos (bT.2 rfl),if_pos (eN.2 rfl)]
  ·rw[if_neg (fun e=>hx (bT.1 e).symm),if_neg (fun e=>hx (eN.1 e))];omega
def eX (xs:List T) (L:List T):List T:=xs.foldl (fun L t=>jD t.c t.m L) L
def jX (c:M→Int) (xs:List T):M→Int:=xs.foldl (fun c t=>lD c t.m t.c) c
def YW (xs:List T):Prop:=∀t∈xs,t.m.ok=true∧0≤t.c∧t.c≤100
theorem nM:∀(xs:List T) (L:List T),YW xs→aK L→aK (eX xs L)∧aL (eX xs L)=jX (aL L) xs
 |[],L,_,hL=>⟨hL,rfl⟩
 |t::r,L,hx,hL=>by
  have h1:=hx t (List.mem_cons_self ..);have h2:=qX hL h1.1 h1.2.1 h1.2.2
  have h3:=nM r (jD t.c t.m L) (fun s hs=>hx s (List.mem_cons_of_mem _ hs)) h2.1;refine⟨h3.1,?_⟩;show aL (eX r (jD t.c t.m L))=jX (lD (aL L) t.m t.c) r
  rw[h3.2,funext h2.2]
theorem oJ:∀(xs:List T) (c:M→Int) (m:M),YW xs→(∀m,0≤c m∧c m≤100)→jX c xs m=(c m+jX (fun _=>0) xs m)%101
 |[],c,m,_,hc=>by
  have:=hc m;show c m=(c m+0)%101
  omega
 |t::r,c,m,hx,hc=>by
  have h1:=hx t (List.mem_cons_self ..);have hr:∀(d:M→Int),(∀m,0≤d m∧d m≤100)→∀m,0≤lD d t.m t.c m∧lD d t.m t.c m≤100:=fun d hd m=>by
   unfold lD;split
   ·omega
   ·exact hd m
  have hz:∀m:M,(0:Int)≤(fun _=>0:M→Int) m∧(fun _=>0:M→Int) m≤100:=fun _=>⟨Int.le_refl _,by show(0:Int)≤100;decide⟩
  have e1:=oJ r (lD c t.m t.c) m (fun s hs=>hx s (List.mem_cons_of_mem _ hs)) (hr c hc);have e2:=oJ r (lD (fun _=>0) t.m t.c) m (fun s hs=>hx s (List.mem_cons_of_mem _ hs)) (hr _ hz)
  show jX (lD c t.m t.c) r m=(c m+jX (lD (fun _=>0) t.m t.c) r m)%101;rw[e1,e2];unfold lD;by_cases hx:m=t.m
  ·subst hx;rw[if_pos (eN.2 rfl),if_pos (eN.2 rfl)];clear e1 e2;dsimp only;omega
  ·rw[if_neg (fun e=>hx (eN.1 e)),if_neg (fun e=>hx (eN.1 e))];clear e1 e2;dsimp only;omega
def iR:Option (List T)→List T×Bool
 |some K=>(K,true)
 |none=>([],false)
theorem tE {L:List T} (h:aK L):NC L:=fun t ht=>by have:=h.2 t ht;omega
def mO (f:Nat→T) (n:Nat):Prop:=∀i,i<n→(f i).m.ok=true∧0≤(f i).c∧(f i).c≤100
theorem bV {n:Nat} {f:Nat→T} (h:aN n f=true):n≤400∧mO f n:=by
 have hp:=h;simp only[aN,decide_eq_true_eq]at hp;refine⟨hp.1,fun i hi=>?_⟩;have:=(dE h).2 i hi
 exact⟨this.1,by omega,this.2.2⟩
theorem DS {n:Nat} {f:Nat→T} (h:aN n f=true) {i:Nat} (hi:i<n):(f i).m.ok=true∧0≤(f i).c∧(f i).c≤100:=by have:=(dE h).2 i hi;exact⟨this.1,by omega,this.2.2⟩
open Go.RowKit Go.Deep Go.Joins
end Go.Proofs.YtncffcaabnjioaaGreat
