/-
  A term put into a sum, in the model.
-/
import Derived.Maps.OwnSet
import Derived.Maps.OwnOps
import Derived.Maps.Views
import Derived.Maps.AppendAt
import Derived.Test.YtelkehjdfcoeiaaGreatNag
import Derived.Sort.Row
import Derived.Shelf.SlSortCmp.QuietGrown
import Derived.Shelf.SlSortCmp.InsertionK
import Derived.Shelf.Lay
import Derived.Ground.SlsfProg
set_option maxHeartbeats 2000000
set_option maxRecDepth 100000
namespace Go.Proofs.YtelkehjdfcoeiaaGreat
open Go.RowKit
set_option linter.unusedVariables false
def lO (c:Int) (m:M) (L:List T):List T:=if c=0 then L else fG (lf L) L.length (fun _=>⟨c,m⟩) 1 0 0
def Cf (L:List T):Prop:=∀t∈L,0≤t.c∧t.c≤100
theorem lK {L:List T} {i:Nat} (h:i<L.length):lf L i∈L:=by unfold lf;rw[List.getD_eq_getElem?_getD,List.getElem?_eq_getElem h];exact List.getElem_mem h
theorem Cf.at {L:List T} (h:Cf L):∀i,i<L.length→0≤(lf L i).c∧(lf L i).c≤100:=fun i hi=>h _ (lK hi)
theorem QN (c:Int) (m:M) (L:List T):(lO c m L).length≤L.length+1:=by
 unfold lO;split
 ·omega
 ·have:=uV (lf L) L.length (fun _=>⟨c,m⟩) 1 0 0;omega
theorem QQ (w:World) (t:T):Rd (w.alloc (.cells #[.int .i64 t.c,.int .i64 t.m.x,.int .i64 t.m.y,.int .i64 t.m.d,.int .i64 t.m.e] 86)) (some ⟨w.heap.size,0,none⟩) 1 1 (fun _=>t):=by
 refine⟨Nat.le_refl _,by omega,.inr ⟨w.heap.size,0,rfl,by simp,fun i hi=>?_⟩⟩;obtain rfl:i=0:=by omega
 exact⟨by rw[World.cell?_alloc_at _ _ _ _ rfl];rfl,by rw[World.cell?_alloc_at _ _ _ _ rfl];rfl,by rw[World.cell?_alloc_at _ _ _ _ rfl];rfl,by rw[World.cell?_alloc_at _ _ _ _ rfl];rfl,by rw[World.cell?_alloc_at _ _ _ _ rfl];rfl⟩
theorem XS (w:World) (lo:Nat) (v:Value) (L:List T) (c x y d e:Int) (ho:w.ownsRow lo 86 5 v L.length (aE L)) (hlo:lo≤w.heap.size) (hl:L.length≤1000) (hL:Cf L) (h0:0≤c) (h1:c≤100):Calls Tryz.prog 83 #[v,.int .i64 c,.agg #[.int .i64 x,.int .i64 y,.int .i64 d,.int .i64 e]] w fun r w'=>∃v',r= .returned v'∧Below w.heap.size w w'∧w'.ownsRow lo 86 5 v' (lO c ⟨x,y,d,e⟩ L).length (aE (lO c ⟨x,y,d,e⟩ L)):=by
 by_cases hc:c=0
 ·subst hc;have e1:lO 0 ⟨x,y,d,e⟩ L=L:=by simp[lO]
  rw[e1];have HO:=aA (dY ho (aC w (.cells #[.int .i64 x,.int .i64 y,.int .i64 d,.int .i64 e] 84)))
  clear ho e1;go_enter Tryz.func83,Tryz.ntmps83;go_wp2;go_ret;exact⟨_,rfl,aC w _,HO.out⟩
 ·have hcb:(c==0)=false:=by simp[hc]
  have e1:lO c ⟨x,y,d,e⟩ L=fG (lf L) L.length (fun _=>⟨c,⟨x,y,d,e⟩⟩) 1 0 0:=by simp[lO,hc]
  rw[e1];obtain⟨a,cap,rfl,hout⟩:=aM ho (by omega);have HR:=aA hout.1
  clear ho hout hc e1;go_enter Tryz.func83,Tryz.ntmps83;go_wp2_with fail;have ha:=aA ((HR.out.below (aC w (.cells #[.int .i64 x,.int .i64 y,.int .i64 d,.int .i64 e] 84))).below (aC _ (.cells #[.int .i64 c,.int .i64 x,.int .i64 y,.int .i64 d,.int .i64 e] 86)))
  have hb:=QQ (w.alloc (.cells #[.int .i64 x,.int .i64 y,.int .i64 d,.int .i64 e] 84)) ⟨c,⟨x,y,d,e⟩⟩;have hb2:Rd ((w.alloc (.cells #[.int .i64 x,.int .i64 y,.int .i64 d,.int .i64 e] 84)).alloc (.cells #[.int .i64 c,.int .i64 x,.int .i64 y,.int .i64 d,.int .i64 e] 86)) (some ⟨w.heap.size+1,0,none⟩) 1 1 (fun _=>⟨c,⟨x,y,d,e⟩⟩):=by simpa using hb
  have hz:=aA (aB (aC w (.cells #[.int .i64 x,.int .i64 y,.int .i64 d,.int .i64 e] 84)) (aC _ (.cells #[.int .i64 c,.int .i64 x,.int .i64 y,.int .i64 d,.int .i64 e] 86)));clear hb;generalize((w.alloc (.cells #[.int .i64 x,.int .i64 y,.int .i64 d,.int .i64 e] 84)).alloc (.cells #[.int .i64 c,.int .i64 x,.int .i64 y,.int .i64 d,.int .i64 e] 86))=W at ha hb2 hz⊢;refine(nV _ _ _ _ _ _ _ (lf L) (fun _=>⟨c,⟨x,y,d,e⟩⟩) ha.out hb2 (by omega) hL.at (fun _ _=>⟨h0,h1⟩)).mono ?_;rintro r w1 ⟨v',rfl,hb1,hown⟩;have HB:=aA (aB hz.out hb1)
  have HO:=aA (GC hown (gW hlo hz.out.size));clear hb2 hb1 hown ha hz HR;go_wp2;go_ret;exact⟨_,rfl,HB.out,HO.out⟩
open Go.RowKit Go.Maps
theorem OR:laidOutB Tryz.prog=true:=by kernel_rfl
theorem jK:Keyed Tryz.prog 84:=Keyed.of_law (deep_law_laid OR (m:=2) (by omega) (of_decide_eq_true (by kernel_rfl)) (by kernel_rfl) (by kernel_rfl))
theorem VU {n:Int} (h0:0≤n) (h1:n≤15):(Lit.int .i64 n).wf=true:=WalkArith.wf_i64 (by omega)
def cY (m:M):Lit:=.string (keyBytes [.int .i64 m.x,.int .i64 m.y,.int .i64 m.d,.int .i64 m.e])
theorem lJ {m:M} (h:m.ok=true):keyOf Tryz.prog 84 (.agg #[.int .i64 m.x,.int .i64 m.y,.int .i64 m.d,.int .i64 m.e])=some (cY m):=by
 obtain⟨x1,x2,y1,y2,d1,d2,e1,e2⟩:=M.ok_iff.1 h;have w1:=VU x1 x2
 have w2:=VU y1 y2;have w3:=VU d1 d2
 have w4:=VU e1 e2;have hk:Tryz.prog.keyType 84=true:=by kernel_rfl
 have hc:Tryz.prog.cellsOf 84=4:=by kernel_rfl
 have h1:Tryz.prog.cellsOf 3=1:=by kernel_rfl
 obtain⟨D,hD⟩:∃D,Tryz.prog.types.size+1=D+1+1:=⟨Tryz.prog.types.size-1,by have:0<Tryz.prog.types.size:=of_decide_eq_true (by kernel_rfl);omega⟩
 unfold keyOf;simp only[Tryz.underlying84,hk,hD,Value.formed,hc];simp[Program.keyLits,Tryz.underlying84,hc,h1,w1,w2,w3,w4,Value.cells,cY]
theorem SL (w:World):(zeroValue 131).run Tryz.prog w= .ok (.int .i64 0) w:=by kernel_rfl
theorem Ce {n:Int} (h0:0≤n) (h1:n≤100):(Lit.int .i64 n).wf=true:=WalkArith.wf_i64 (by omega)
theorem rO {w:World} {P:Program} {k:TypeId} {R:Value→Option (DataW Unit×List MemPlace)} {b n n':Nat} {D:DataW Unit} (h:w.ownsMap P k R b n D) (hn:n≤n'):w.ownsMap P k R b n' D:=by obtain⟨es,clock,h1,h2,h3,h4⟩:=h;exact⟨es,clock,h1,h2,gW h3 hn,h4⟩
def BT (D:DataW Unit) (m:M) (v:Int):DataW Unit:=if v=0 then D.del (cY m)else D.put (cY m) (.lit (.int .i64 v))
theorem YT (b n:Nat) (D:DataW Unit) (c0 c:Int) (m:M) (w:World) (hm:m.ok=true) (hown:w.ownsMap Tryz.prog 84 (plainElem Tryz.prog 131) b n D) (hn:n<maxLen) (hat:D.atKey (cY m) (.lit (.int .i64 0))= .lit (.int .i64 c0)) (a0:0≤c0) (a1:c0≤100) (h0:0≤c) (h1:c≤100):Calls Tryz.prog 145 #[.map (some b),.int .i64 c,.agg #[.int .i64 m.x,.int .i64 m.y,.int .i64 m.d,.int .i64 m.e]] w fun e w'=>e= .returned (.tuple #[])∧w'.ownsMap Tryz.prog 84 (plainElem Tryz.prog 131) b (n+1) (BT D m ((c0+c)%101))∧w.grownBy w' (some b):=by
 have hkey:=lJ hm;have r0:0≤(c0+c)%101:=by omega
 have r1:(c0+c)%101≤100:=by omega
 have hg0:=World.grownBy_alloc w (.cells #[.int .i64 m.x,.int .i64 m.y,.int .i64 m.d,.int .i64 m.e] 84) (some b);have ho0:=hown.alloc (.cells #[.int .i64 m.x,.int .i64 m.y,.int .i64 m.d,.int .i64 m.e] 84)
 by_cases hz:(c0+c)%101=0
 ·have e1:BT D m ((c0+c)%101)=D.del (cY m):=by simp[BT,hz]
  rw[e1];go_enter Tryz.func145,Tryz.ntmps145
  go_wp2_with (first
   |(at_lookup;refine wpList_lookup_own_int _ rfl _ _ 95 rfl 84 131 .i64 jK Tryz.underlying95 Tryz.underlying131 (SL _) b n D rfl ho0 _ _ rfl hkey ?_;intro c1 hat1 hwc1;obtain rfl:c1=c0:=(by rw[hat]at hat1;simpa using hat1.symm))
   |(go_at_call 173;refine(At _ _ _ a0 a1 h0 h1).mono ?_;rintro r w2 ⟨rfl,hw⟩;obtain rfl:=hw.symm;clear hw)
   |(at_delete;refine wpList_delete_own _ rfl _ _ 95 84 rfl 131 jK Tryz.underlying95 _ b n D rfl ho0 _ _ rfl hkey ?_;intro w1 hown1 hturn1)
   |go_in)
  refine cV (results_none rfl _ _ _) rfl ?_;exact⟨rfl,rO hown1 (Nat.le_succ _),hg0.trans hturn1.grown⟩
 ·have e1:BT D m ((c0+c)%101)=D.put (cY m) (.lit (.int .i64 ((c0+c)%101))):=by simp[BT,hz]
  rw[e1];have hzb:((c0+c)%101==0)=false:=by simpa using hz
  go_enter Tryz.func145,Tryz.ntmps145
  go_wp2_with (first
   |(at_lookup;refine wpList_lookup_own_int _ rfl _ _ 95 rfl 84 131 .i64 jK Tryz.underlying95 Tryz.underlying131 (SL _) b n D rfl ho0 _ _ rfl hkey ?_;intro c1 hat1 hwc1;obtain rfl:c1=c0:=(by rw[hat]at hat1;simpa using hat1.symm))
   |(go_at_call 173;refine(At _ _ _ a0 a1 h0 h1).mono ?_;rintro r w2 ⟨rfl,hw⟩;obtain rfl:=hw.symm;clear hw)
   |(at_mapUpdate;refine wpList_mapUpdate_own _ rfl _ _ _ 95 rfl 84 131 jK Tryz.underlying95 _ b n D rfl ho0 hn _ _ _ rfl rfl hkey _ [] (plainElem_int Tryz.underlying131 (Ce r0 r1)) ?_;intro w1 hown1 hgrow1)
   |go_in)
  go_end0
  exact⟨rfl,hown1,hg0.trans hgrow1⟩
theorem rF {a b:M} (ha:a.ok=true) (hb:b.ok=true) (h:cY a=cY b):a=b:=by
 have h1:=lJ ha;have h2:=lJ hb
 rw[←h]at h2;have h3:=jK.inj h1 h2
 cases a;cases b;simpa using h3
def aV (w:World) (b n:Nat) (c:M→Int):Prop:=
 ∃D:DataW Unit,w.ownsMap Tryz.prog 84 (plainElem Tryz.prog 131) b n D∧(∀m,0≤c m∧c m≤100)∧
  (∀m:M,m.ok=true→D.atKey (cY m) (.lit (.int .i64 0))= .lit (.int .i64 (c m))∧(Maps.has D (cY m)=true↔c m≠0))∧(∀kl,Maps.has D kl=true→∃m:M,m.ok=true∧kl=cY m)
def ZB (a b:M):Bool:=decide (a.x=b.x∧a.y=b.y∧a.d=b.d∧a.e=b.e)
theorem dS {a b:M}:ZB a b=true↔a=b:=by cases a;cases b;simp[ZB]
def kM (c:M→Int) (m:M) (v:Int) (x:M):Int:=if ZB x m=true then(c m+v)%101 else c x
theorem yT (c:M→Int) (m:M) (v:Int):kM c m v m=(c m+v)%101:=if_pos (dS.2 rfl)
theorem wU {c:M→Int} {m x:M} {v:Int} (h:x≠m):kM c m v x=c x:=if_neg (fun e=>h (dS.1 e))
theorem aV.grown {w w':World} {b n:Nat} {c:M→Int} {row:Option Nat} (h:aV w b n c) (hg:w.grownBy w' row) (hne:some b≠row):aV w' b n c:=by
 obtain⟨D,⟨es,clock,h1,h2,h3,h4⟩,h5⟩:=h;have hlt:b<w.heap.size:=by
  rcases Nat.lt_or_ge b w.heap.size with h|h
  ·exact h
  ·rw[Array.getElem?_eq_none h]at h1;cases h1
 exact⟨D,⟨es,clock,(hg.block b hlt hne).trans h1,h2,h3,h4⟩,h5⟩
theorem AX (b n:Nat) (c:M→Int) (v:Int) (m:M) (w:World) (hm:m.ok=true) (h:aV w b n c) (hn:n<maxLen) (h0:0≤v) (h1:v≤100):Calls Tryz.prog 145 #[.map (some b),.int .i64 v,.agg #[.int .i64 m.x,.int .i64 m.y,.int .i64 m.d,.int .i64 m.e]] w fun e w'=>e= .returned (.tuple #[])∧aV w' b (n+1) (kM c m v)∧w.grownBy w' (some b):=by
 obtain⟨D,hown,hc,hat,hks⟩:=h;have hD:IsMap D:=(hown.tidy jK).isMap
 have hK:WideAt.IsKeyLit (cY m):=jK.key (lJ hm);refine(YT b n D (c m) v m w hm hown hn (hat m hm).1 (hc m).1 (hc m).2 h0 h1).mono ?_;rintro e w' ⟨rfl,ho,hg⟩;refine⟨rfl,⟨_,ho,fun x=>?_,fun x hx=>?_,fun kl hkl=>?_⟩,hg⟩
 ·unfold kM;split
  ·omega
  ·exact hc x
 ·by_cases hxm:x=m
  ·subst hxm;rw[yT];unfold BT;split
   ·rename_i hz;rw[atKey_del_same,has_del_same,hz];exact⟨rfl,by simp⟩
   ·rename_i hz;rw[atKey_put_same hD hK,has_put_same hD hK];exact⟨rfl,by simp[hz]⟩
  ·have hne:cY x≠cY m:=fun e=>hxm (rF hx hm e);rw[wU hxm];unfold BT;split
   ·rw[atKey_del_other hne,has_del_other hne];exact hat x hx
   ·rw[atKey_put_other hne,has_put_other hne];exact hat x hx
 ·by_cases hkm:kl=cY m
  ·exact⟨m,hm,hkm⟩
  ·unfold BT at hkl;split at hkl
   ·rw[has_del_other hkm]at hkl;exact hks kl hkl
   ·rw[has_put_other hkm]at hkl;exact hks kl hkl
end Go.Proofs.YtelkehjdfcoeiaaGreat
namespace Go.Proofs.YtelkehjdfcoeiaaGreat
open Go.RowKit
set_option linter.unusedVariables false
theorem tV (f:Nat→T) (m:M):∀(u i:Nat),cD f u (i+1) m=cD (fun j=>f (j+1)) u i m
 |0,_=>rfl
 |u+1,i=>by rw[cD,cD,tV f m u (i+1)]
theorem kG (m:M):∀L:List T,cD (lf L) L.length 0 m=aI L m
 |[]=>rfl
 |t::r=>by
  have e:(fun j=>lf (t::r) (j+1))=lf r:=by funext j;simp[lf]
  have e0:lf (t::r) 0=t:=rfl;rw[List.length_cons,cD,e0,aI,tV,e,kG m r]
theorem tT {L:List T} (h:aH L):Fl (lf L) L.length:=by
 have at_:∀i (hi:i<L.length),lf L i=L[i]:=fun i hi=>by unfold lf;rw[List.getD_eq_getElem?_getD,List.getElem?_eq_getElem hi];rfl
 refine⟨fun j i hji hi=>?_,fun i hi=>?_⟩
 ·rw[at_ i hi,at_ j (by omega)];exact(List.pairwise_iff_getElem.1 h.1) j i (by omega) hi hji
 ·rw[at_ i hi];exact h.2 _ (List.getElem_mem hi)
theorem bD {L:List T} (h:aH L) (m:M):0≤aI L m∧aI L m≤100:=by
 induction L with
 |nil=>simp[aI]
 |cons t r ih=>
  rw[aI];split
  ·have:=h.2 t (List.mem_cons_self ..);omega
  ·exact ih h.tail
theorem dL:aH []:=⟨List.Pairwise.nil,fun t h=>by cases h⟩
def cG (K X:List T):List T:=fG (lf K) K.length (lf X) X.length 0 0
theorem cM {K X:List T} (hK:aH K) (hX:aH X):aH (cG K X)∧∀m,aI (cG K X) m=(aI K m+aI X m)%101:=by obtain⟨_,h2,h3⟩:=jV (tT hK) (tT hX) (K.length-0+(X.length-0)) 0 0 (Nat.le_refl _);refine⟨h2,fun m=>(h3 m).trans ?_⟩;rw[Nat.sub_zero,Nat.sub_zero,kG,kG]
theorem qD {L:List T} (hL:aH L) {c:Int} {m:M} (hm:m.ok=true) (c0:0≤c) (c1:c≤100):aH (lO c m L)∧∀x,aI (lO c m L) x=kM (aI L) m c x:=by
 unfold lO;by_cases hc:c=0
 ·rw[if_pos hc];refine⟨hL,fun x=>?_⟩;unfold kM;split
  ·rename_i hx;have:=bD hL m
   rw[dS.1 hx,hc];omega
  ·rfl
 ·rw[if_neg hc];have G:Fl (fun _=>(⟨c,m⟩:T)) 1:=⟨fun j i h1 h2=>by omega,fun i hi=>⟨hm,by show 1≤c;omega,c1⟩⟩
  obtain⟨_,h2,h3⟩:=jV (tT hL) G (L.length-0+(1-0)) 0 0 (Nat.le_refl _);refine⟨h2,fun x=>(h3 x).trans ?_⟩;rw[Nat.sub_zero,Nat.sub_zero,kG];show(aI L x+(if fZ m x=true then c else 0))%101=_
  have hr:=bD hL x;unfold kM;by_cases hx:x=m
  ·subst hx;rw[if_pos (bM.2 rfl),if_pos (dS.2 rfl)]
  ·rw[if_neg (fun e=>hx (bM.1 e).symm),if_neg (fun e=>hx (dS.1 e))];omega
def eN (xs:List T) (L:List T):List T:=xs.foldl (fun L t=>lO t.c t.m L) L
def jH (c:M→Int) (xs:List T):M→Int:=xs.foldl (fun c t=>kM c t.m t.c) c
def ZK (xs:List T):Prop:=∀t∈xs,t.m.ok=true∧0≤t.c∧t.c≤100
theorem mX:∀(xs:List T) (L:List T),ZK xs→aH L→aH (eN xs L)∧aI (eN xs L)=jH (aI L) xs
 |[],L,_,hL=>⟨hL,rfl⟩
 |t::r,L,hx,hL=>by
  have h1:=hx t (List.mem_cons_self ..);have h2:=qD hL h1.1 h1.2.1 h1.2.2
  have h3:=mX r (lO t.c t.m L) (fun s hs=>hx s (List.mem_cons_of_mem _ hs)) h2.1;refine⟨h3.1,?_⟩;show aI (eN r (lO t.c t.m L))=jH (kM (aI L) t.m t.c) r
  rw[h3.2,funext h2.2]
theorem nM:∀(xs:List T) (c:M→Int) (m:M),ZK xs→(∀m,0≤c m∧c m≤100)→jH c xs m=(c m+jH (fun _=>0) xs m)%101
 |[],c,m,_,hc=>by
  have:=hc m;show c m=(c m+0)%101
  omega
 |t::r,c,m,hx,hc=>by
  have h1:=hx t (List.mem_cons_self ..);have hr:∀(d:M→Int),(∀m,0≤d m∧d m≤100)→∀m,0≤kM d t.m t.c m∧kM d t.m t.c m≤100:=fun d hd m=>by
   unfold kM;split
   ·omega
   ·exact hd m
  have hz:∀m:M,(0:Int)≤(fun _=>0:M→Int) m∧(fun _=>0:M→Int) m≤100:=fun _=>⟨Int.le_refl _,by show(0:Int)≤100;decide⟩
  have e1:=nM r (kM c t.m t.c) m (fun s hs=>hx s (List.mem_cons_of_mem _ hs)) (hr c hc);have e2:=nM r (kM (fun _=>0) t.m t.c) m (fun s hs=>hx s (List.mem_cons_of_mem _ hs)) (hr _ hz)
  show jH (kM c t.m t.c) r m=(c m+jH (kM (fun _=>0) t.m t.c) r m)%101;rw[e1,e2];unfold kM;by_cases hx:m=t.m
  ·subst hx;rw[if_pos (dS.2 rfl),if_pos (dS.2 rfl)];clear e1 e2;dsimp only;omega
  ·rw[if_neg (fun e=>hx (dS.1 e)),if_neg (fun e=>hx (dS.1 e))];clear e1 e2;dsimp only;omega
def iN:Option (List T)→List T×Bool
 |some K=>(K,true)
 |none=>([],false)
theorem sN {L:List T} (h:aH L):Cf L:=fun t ht=>by have:=h.2 t ht;omega
def mH (f:Nat→T) (n:Nat):Prop:=∀i,i<n→(f i).m.ok=true∧0≤(f i).c∧(f i).c≤100
theorem bL {n:Nat} {f:Nat→T} (h:aK n f=true):n≤400∧mH f n:=by
 have hp:=h;simp only[aK,decide_eq_true_eq]at hp;refine⟨hp.1,fun i hi=>?_⟩;have:=(dR h).2 i hi
 exact⟨this.1,by omega,this.2.2⟩
theorem DS {n:Nat} {f:Nat→T} (h:aK n f=true) {i:Nat} (hi:i<n):(f i).m.ok=true∧0≤(f i).c∧(f i).c≤100:=by have:=(dR h).2 i hi;exact⟨this.1,by omega,this.2.2⟩
def RL (w:World) (a:Option Addr) (c:Nat) (L:List T):Prop:=Rd w a L.length c (lf L)
theorem RL.below {w w':World} {a:Option Addr} {c:Nat} {L:List T} (h:RL w a c L) (hb:Below w.heap.size w w'):RL w' a c L:=Rd.below h hb
theorem iH {L:List T} {i:Nat} (h:i<L.length):lf L i=L[i]:=by unfold lf;rw[List.getD_eq_getElem?_getD,List.getElem?_eq_getElem h];rfl
def cJ (L:List T):Bool:=aK L.length (lf L)
theorem aD {L:List T} (h:cJ L=true):L.length≤400∧aH L:=by
 have hF:=dR h;have hl:L.length≤400:=by unfold cJ at h;simp only[aK,decide_eq_true_eq]at h;exact h.1
 refine⟨hl,List.pairwise_iff_getElem.2 (fun i j hi hj hij=>?_),fun t ht=>?_⟩
 ·have:=hF.1 i j hij hj
  rwa[iH hi,iH hj]at this
 ·obtain⟨i,hi,rfl⟩:=List.mem_iff_getElem.1 ht;have:=hF.2 i hi
  rwa[iH hi]at this
theorem fO {L:List T} (hl:L.length≤400) (h:aH L):cJ L=true:=by
 unfold cJ aK;rw[decide_eq_true_eq];refine⟨hl,fun i hi=>?_⟩;have h1:=h.2 (L[i]) (List.getElem_mem hi)
 simp only[jD,Bool.and_eq_true,Bool.or_eq_true,decide_eq_true_eq];rw[iH hi];refine⟨⟨h1.2,h1.1⟩,?_⟩;by_cases h0:i=0
 ·exact .inl h0
 ·refine .inr ?_;have hi1:i-1<L.length:=by omega
  rw[iH hi1];exact(rJ (h.2 _ (List.getElem_mem hi1)).1 h1.1).2 ((List.pairwise_iff_getElem.1 h.1) (i-1) i hi1 hi (by omega))
theorem lB:cJ []=true:=fO (by simp) dL
theorem nN (L K:List T):(cG L K).length≤L.length+K.length:=by have:=uV (lf L) L.length (lf K) K.length 0 0;simpa[cG]using this
theorem uZ (m:M):aI [] m=0:=rfl
def jA (c:Int) (L:List T):List T:=MO c (lf L) L.length
theorem fU (c:Int) (L:List T):(jA c L).length=L.length:=VH _ _ _
theorem mZ (c:Int) (L:List T):jA c L=L.map (fun t=>⟨c*t.c%101,t.m⟩):=by
 refine List.ext_getElem (by simp[fU]) (fun i h1 h2=>?_);have hi:i<L.length:=by rw[fU]at h1;exact h1
 rw[←iH h1,jA,vN _ _ _ _ hi,iH hi];simp
theorem fM {c:Int} {L:List T} (c1:1≤c) (c2:c≤100) (h:aH L):aH (jA c L):=by
 rw[mZ];refine⟨by rw[List.pairwise_map];exact h.1,fun t ht=>?_⟩;obtain⟨s,hs,rfl⟩:=List.mem_map.1 ht;have hr:=h.2 s hs
 have hne:=IC (a:=c) (b:=s.c) (by omega) (by omega) (by omega) (by omega);rw[gY (by omega) c2 (by omega) hr.2.2]at hne;exact⟨hr.1,by show 1≤c*s.c%101;omega,by show c*s.c%101≤100;omega⟩
theorem EG (c:Int) (m:M):∀L:List T,aI (jA c L) m=c*aI L m%101:=by
 intro L;rw[mZ];induction L with
 |nil=>simp[aI]
 |cons t r ih=>
  rw[List.map_cons,aI,aI];split
  ·rfl
  ·exact ih
def bY (L K:List T):List T:=cG L (jA 100 K)
def rZ (L K:List T):List T×Bool:=iO (lf L) L.length (lf K) K.length
theorem JR (L K:List T):fG (lf L) L.length (uE (lf K) K.length) K.length 0 0=bY L K:=by unfold bY cG;rw[fU];rfl
theorem AW {L K:List T} (hL:cJ L=true) (hK:cJ K=true) (h:(bY L K).length≤400):rZ L K=(bY L K,true):=by unfold rZ iO;rw[JR];exact if_pos ⟨hL,hK,h⟩
theorem tK (L K:List T):rZ L K=([],false)∨(cJ L=true∧cJ K=true∧(bY L K).length≤400∧rZ L K=(bY L K,true)):=by
 by_cases h:cJ L=true∧cJ K=true∧(bY L K).length≤400
 ·exact .inr ⟨h.1,h.2.1,h.2.2,AW h.1 h.2.1 h.2.2⟩
 ·refine .inl ?_;unfold rZ iO;rw[JR];exact if_neg h
theorem wL (L K:List T):(bY L K).length≤L.length+K.length:=by have:=nN L (jA 100 K);rw[fU]at this;exact this
theorem cB {L K:List T} (hL:aH L) (hK:aH K):aH (bY L K)∧∀m,aI (bY L K) m=(aI L m+100*aI K m%101)%101:=by
 have h:=cM hL (fM (c:=100) (by omega) (by omega) hK);refine⟨h.1,fun m=>?_⟩;show aI (cG L (jA 100 K)) m=_
 rw[h.2,EG]
theorem RZ {L:List T} (hL:aH L):bY L L=[]:=by
 have h1:=cB hL hL;refine jU h1.1 dL (fun m _=>?_);have r1:=bD hL m
 rw[h1.2,uZ];omega
theorem ER {L K:List T} (hL:aH L) (hK:aH K):bY L K=[]↔L=K:=by
 constructor
 ·intro h;have h1:=cB hL hK
  refine jU hL hK (fun m _=>?_);have h2:=h1.2 m
  rw[h,uZ]at h2;have r1:=bD hL m
  have r2:=bD hK m;omega
 ·intro h;rw[h];exact RZ hK
open Go.RowKit Go.Sort
structure Gr (w u:World):Prop where
 below:Below w.heap.size w u
 drawn:w.drawn≤u.drawn
theorem Gr.refl (w:World):Gr w w:=⟨bQ _ _,Nat.le_refl _⟩
theorem Gr.trans {a b c:World} (h:Gr a b) (k:Gr b c):Gr a c:=⟨h.below.trans (k.below.mono h.below.size),gW h.drawn k.drawn⟩
theorem Gr.alloc (w:World) (o:Obj):Gr w (w.alloc o):=⟨aC w o,by simp⟩
theorem Gr.drew (w:World):Gr w w.drew:=⟨(bQ _ _).drew,by simp⟩
theorem Gr.form {w u:World} (h:Gr w u):∃q os,u=grow (w.drewN q) os:=by
 refine⟨u.drawn-w.drawn,u.heap.extract w.heap.size u.heap.size,?_⟩;obtain⟨⟨h1,h2,h3,h4,h5⟩,h6⟩:=h;cases u with
 |mk heap tape drawn os output=>
  simp only at h1 h2 h3 h4 h5 h6;subst h1 h2 h3;have hh:w.heap++heap.extract w.heap.size heap.size=heap:=by
   apply Array.ext_getElem?;intro i;by_cases hi:i<w.heap.size
   ·rw[Array.getElem?_append_left hi,h5 i hi]
   ·rw[Array.getElem?_append_right (by omega),Array.getElem?_extract];split
    ·congr 1;omega
    ·exact(Array.getElem?_eq_none (by omega)).symm
  have hd:w.drawn+(drawn-w.drawn)=drawn:=by omega
  simp only[grow,World.drewN];rw[hh,hd]
def kC (w:World):Type:=Subtype (fun u:World=>Gr w u)
theorem kC.there (w:World):Nonempty (kC w):=⟨⟨w,Gr.refl _⟩⟩
theorem oH {P:Program} {id:Nat} {Q:Exit→Act→World→Prop} {a:Act} {w:World} {l:List Oper} (hm:P.follows .mixedOrders=true) (hB:Region.lexB .any l.toArray=true) (h:wpQuiet P l.toArray (fun u=>∃x:kC w,u=x.1) (fun a'=>∀w',(∃x:kC w,w'=x.1)→Q .normal a' w') l a):(Code.region id l.toArray true).wp P Q a w:=
 wp_region_quiet (C:=fun u=>∃x:kC w,u=x.1) hm hB ⟨⟨_,Gr.drew _⟩,rfl⟩ (by simpa using h)
theorem KY {P:Program} {f:FuncId} {args:Array Value} {w:World} {x:kC w} {v:Value} (h:Calls P f args x.1 fun e w'=>e= .returned v∧w'=x.1):Calls P f args x.1 fun e w''=>e= .returned v∧∃y:kC w,w''=y.1:=
 h.mono fun _ _ ⟨he,hm⟩=>⟨he,x,hm⟩
theorem mL {P:Program} {f:FuncId} {args:Array Value} {w:World} {x:kC w} {v:Value} (h:Calls P f args x.1 fun e w'=>e= .returned v∧Gr x.1 w'):Calls P f args x.1 fun e w''=>e= .returned v∧∃y:kC w,w''=y.1:=
 h.mono fun _ w' ⟨he,hm⟩=>⟨he,⟨w',x.2.trans hm⟩,rfl⟩
theorem qV {w:World} {t:TypeId} (cs:Array Value) (k:Nat) (v:Value) (h:cs[k]? =some v):∀u:kC (w.alloc (.cells cs t)),u.1.cell? ⟨w.heap.size,k,none⟩=some v:=fun u=>by
 have:=jJ (w:=w) (t:=t) cs k v h ⟨u.1,u.2.below⟩;exact this
theorem TI (x y d e:Int) (w:World) (h:M.ok ⟨x,y,d,e⟩=true):Calls Tryz.prog 136 #[.agg #[.int .i64 x,.int .i64 y,.int .i64 d,.int .i64 e]] w fun r w'=>r= .returned (.int .i64 (x+y+d+e))∧Gr w w':=by obtain⟨x1,x2,y1,y2,d1,d2,e1,e2⟩:=M.ok_iff.1 h;simp only at x1 x2 y1 y2 d1 d2 e1 e2;clear h;go_enter Tryz.func136,Tryz.ntmps136;go_wp2;go_ret;exact⟨rfl,Gr.alloc w _⟩
theorem QP (x y d e:Int) (w:World) (h:M.ok ⟨x,y,d,e⟩=true):Calls Tryz.prog 122 #[.agg #[.int .i64 x,.int .i64 y,.int .i64 d,.int .i64 e]] w fun r w'=>r= .returned (.int .i64 (fF ⟨x,y,d,e⟩))∧Gr w w':=by obtain⟨x1,x2,y1,y2,d1,d2,e1,e2⟩:=M.ok_iff.1 h;simp only at x1 x2 y1 y2 d1 d2 e1 e2;clear h;simp only[fF];go_enter Tryz.func122,Tryz.ntmps122;go_wp2;go_ret;exact⟨rfl,Gr.alloc w _⟩
theorem DV (x y d e:Int) (w:World) (h:M.ok ⟨x,y,d,e⟩=true):Calls Tryz.prog 93 #[.agg #[.int .i64 x,.int .i64 y,.int .i64 d,.int .i64 e]] w fun r w'=>r= .returned (.int .i64 (dI ⟨x,y,d,e⟩))∧Gr w w':=by
 obtain⟨x1,x2,y1,y2,d1,d2,e1,e2⟩:=M.ok_iff.1 h;simp only at x1 x2 y1 y2 d1 d2 e1 e2;have HK:=aA h
 have k1:0≤fF ⟨x,y,d,e⟩:=by simp only[fF];omega
 have k2:fF ⟨x,y,d,e⟩≤65535:=by simp only[fF];omega
 have r1:dI ⟨x,y,d,e⟩=(x+y+d+e)*65536+fF ⟨x,y,d,e⟩:=rfl;rw[r1];clear h r1;go_enter Tryz.func93,Tryz.ntmps93;go_wp2_with fail;have B1:=aA (Gr.alloc w (.cells #[.int .i64 x,.int .i64 y,.int .i64 d,.int .i64 e] 84))
 have ne:=kC.there (w.alloc (.cells #[.int .i64 x,.int .i64 y,.int .i64 d,.int .i64 e] 84));have s0:=qV (w:=w) (t:=84) #[.int .i64 x,.int .i64 y,.int .i64 d,.int .i64 e] 0 _ rfl
 have s1:=qV (w:=w) (t:=84) #[.int .i64 x,.int .i64 y,.int .i64 d,.int .i64 e] 1 _ rfl;have s2:=qV (w:=w) (t:=84) #[.int .i64 x,.int .i64 y,.int .i64 d,.int .i64 e] 2 _ rfl
 have s3:=qV (w:=w) (t:=84) #[.int .i64 x,.int .i64 y,.int .i64 d,.int .i64 e] 3 _ rfl;refine oH (by kernel_rfl) (by kernel_rfl) ?_;repeat(go_big_quiet_step (first|(go_at_call 136;exact mL (TI _ _ _ _ _ HK.out))|(go_at_call 122;exact mL (QP _ _ _ _ _ HK.out))))
 refine wpQuiet_nil ?_;rintro _ ⟨u,rfl⟩;go_wp2;go_ret;exact⟨rfl,B1.out.trans u.2⟩
theorem kC.cell {w:World} (x:kC w) {b o:Nat} (h:b<w.heap.size):x.1.cell? ⟨b,o,none⟩=w.cell? ⟨b,o,none⟩:=x.2.below.cell (p:=⟨b,o,none⟩) h
theorem FI (Br:Nat) (x y d e x' y' d' e':Int) (w:World) (h:M.ok ⟨x,y,d,e⟩=true) (h':M.ok ⟨x',y',d',e'⟩=true) (hB:Br<w.heap.size) (hr:w.cell? ⟨Br,0,none⟩=some (.func (.func 93) #[] #[])):Calls Tryz.prog 151 #[.agg #[.int .i64 x,.int .i64 y,.int .i64 d,.int .i64 e],.agg #[.int .i64 x',.int .i64 y',.int .i64 d',.int .i64 e'],.pointer (some ⟨Br,0,none⟩)] w fun r w'=>r= .returned (.int .i64 (c3 (dI ⟨x,y,d,e⟩) (dI ⟨x',y',d',e'⟩)))∧Gr w w':=by
 have HA:=aA h;have HB:=aA h'
 clear h h';go_enter Tryz.func151,Tryz.ntmps151;go_wp2_with fail;have B1:=aA ((Gr.alloc w (.cells #[.int .i64 x,.int .i64 y,.int .i64 d,.int .i64 e] 84)).trans (Gr.alloc _ (.cells #[.int .i64 x',.int .i64 y',.int .i64 d',.int .i64 e'] 84)))
 have r0:((w.alloc (.cells #[.int .i64 x,.int .i64 y,.int .i64 d,.int .i64 e] 84)).alloc (.cells #[.int .i64 x',.int .i64 y',.int .i64 d',.int .i64 e'] 84)).cell? ⟨Br,0,none⟩=some (.func (.func 93) #[] #[]):=(B1.out.below.cell (p:=⟨Br,0,none⟩) hB).trans hr;have a0:((w.alloc (.cells #[.int .i64 x,.int .i64 y,.int .i64 d,.int .i64 e] 84)).alloc (.cells #[.int .i64 x',.int .i64 y',.int .i64 d',.int .i64 e'] 84)).cell? ⟨w.heap.size,0,none⟩=some (.int .i64 x):=by go_simp
 have a1:((w.alloc (.cells #[.int .i64 x,.int .i64 y,.int .i64 d,.int .i64 e] 84)).alloc (.cells #[.int .i64 x',.int .i64 y',.int .i64 d',.int .i64 e'] 84)).cell? ⟨w.heap.size,1,none⟩=some (.int .i64 y):=by go_simp
 have a2:((w.alloc (.cells #[.int .i64 x,.int .i64 y,.int .i64 d,.int .i64 e] 84)).alloc (.cells #[.int .i64 x',.int .i64 y',.int .i64 d',.int .i64 e'] 84)).cell? ⟨w.heap.size,2,none⟩=some (.int .i64 d):=by go_simp
 have a3:((w.alloc (.cells #[.int .i64 x,.int .i64 y,.int .i64 d,.int .i64 e] 84)).alloc (.cells #[.int .i64 x',.int .i64 y',.int .i64 d',.int .i64 e'] 84)).cell? ⟨w.heap.size,3,none⟩=some (.int .i64 e):=by go_simp
 have b0:((w.alloc (.cells #[.int .i64 x,.int .i64 y,.int .i64 d,.int .i64 e] 84)).alloc (.cells #[.int .i64 x',.int .i64 y',.int .i64 d',.int .i64 e'] 84)).cell? ⟨w.heap.size+1,0,none⟩=some (.int .i64 x'):=by go_simp
 have b1:((w.alloc (.cells #[.int .i64 x,.int .i64 y,.int .i64 d,.int .i64 e] 84)).alloc (.cells #[.int .i64 x',.int .i64 y',.int .i64 d',.int .i64 e'] 84)).cell? ⟨w.heap.size+1,1,none⟩=some (.int .i64 y'):=by go_simp
 have b2:((w.alloc (.cells #[.int .i64 x,.int .i64 y,.int .i64 d,.int .i64 e] 84)).alloc (.cells #[.int .i64 x',.int .i64 y',.int .i64 d',.int .i64 e'] 84)).cell? ⟨w.heap.size+1,2,none⟩=some (.int .i64 d'):=by go_simp
 have b3:((w.alloc (.cells #[.int .i64 x,.int .i64 y,.int .i64 d,.int .i64 e] 84)).alloc (.cells #[.int .i64 x',.int .i64 y',.int .i64 d',.int .i64 e'] 84)).cell? ⟨w.heap.size+1,3,none⟩=some (.int .i64 e'):=by go_simp
 have z:((w.alloc (.cells #[.int .i64 x,.int .i64 y,.int .i64 d,.int .i64 e] 84)).alloc (.cells #[.int .i64 x',.int .i64 y',.int .i64 d',.int .i64 e'] 84)).heap.size=w.heap.size+2:=by simp
 generalize(w.alloc (.cells #[.int .i64 x,.int .i64 y,.int .i64 d,.int .i64 e] 84)).alloc (.cells #[.int .i64 x',.int .i64 y',.int .i64 d',.int .i64 e'] 84)=wb at *;have ne:=kC.there wb
 have sr:∀u:kC wb,u.1.cell? ⟨Br,0,none⟩=some (.func (.func 93) #[] #[]):=fun u=>(u.cell (by omega)).trans r0;have s0:∀u:kC wb,u.1.cell? ⟨w.heap.size,0,none⟩=some (.int .i64 x):=fun u=>(u.cell (by omega)).trans a0
 have s1:∀u:kC wb,u.1.cell? ⟨w.heap.size,1,none⟩=some (.int .i64 y):=fun u=>(u.cell (by omega)).trans a1;have s2:∀u:kC wb,u.1.cell? ⟨w.heap.size,2,none⟩=some (.int .i64 d):=fun u=>(u.cell (by omega)).trans a2
 have s3:∀u:kC wb,u.1.cell? ⟨w.heap.size,3,none⟩=some (.int .i64 e):=fun u=>(u.cell (by omega)).trans a3;have t0:∀u:kC wb,u.1.cell? ⟨w.heap.size+1,0,none⟩=some (.int .i64 x'):=fun u=>(u.cell (by omega)).trans b0
 have t1:∀u:kC wb,u.1.cell? ⟨w.heap.size+1,1,none⟩=some (.int .i64 y'):=fun u=>(u.cell (by omega)).trans b1;have t2:∀u:kC wb,u.1.cell? ⟨w.heap.size+1,2,none⟩=some (.int .i64 d'):=fun u=>(u.cell (by omega)).trans b2
 have t3:∀u:kC wb,u.1.cell? ⟨w.heap.size+1,3,none⟩=some (.int .i64 e'):=fun u=>(u.cell (by omega)).trans b3;clear a0 a1 a2 a3 b0 b1 b2 b3 r0;refine oH (by kernel_rfl) (by kernel_rfl) ?_;repeat(go_big_quiet_step (first|(go_at_call 152;exact KY (OD _ _ _))|(go_at_call_of 93 (Value.int IntKind.i64 x);exact mL (DV _ _ _ _ _ HA.out))|(go_at_call 93;exact mL (DV _ _ _ _ _ HB.out))))
 refine wpQuiet_nil ?_;rintro _ ⟨u,rfl⟩;go_wp2;go_ret;exact⟨rfl,B1.out.trans u.2⟩
open Go.RowKit Go.Sort Go.Shelf Go.Lib
abbrev OM:Type:={m:M // m.ok=true}
def dJ (m:OM):List Value:=[.int .i64 m.1.x,.int .i64 m.1.y,.int .i64 m.1.d,.int .i64 m.1.e]
instance:Inhabited OM:=⟨⟨⟨0,0,0,0⟩,by decide⟩⟩
theorem NX (Br blk off size:Nat) (w:World) (hB:Br<w.heap.size) (hne:Br≠blk) (hr:w.cell? ⟨Br,0,none⟩=some (.func (.func 93) #[] #[])):CmpLays Tryz.prog 151 #[.pointer (some ⟨Br,0,none⟩)] dJ 4 (fun x y=>c3 (dI x.1) (dI y.1)) blk off size w:=by
 intro m os dk hdk x y;have hr':(sortWorldK dJ 4 w blk off m dk os).cell? ⟨Br,0,none⟩=some (.func (.func 93) #[] #[]):=by unfold sortWorldK;rw[cell?_grow _ _ _ (by rw[size_putRowK];exact hB),cell?_putRowK_other _ _ _ blk off dk _ hne];exact hr
 have hB':Br<(sortWorldK dJ 4 w blk off m dk os).heap.size:=by unfold sortWorldK;rw[Go.Sort.size_grow,size_putRowK];exact iZ hB (Nat.le_add_right _ _)
 refine(FI Br _ _ _ _ _ _ _ _ _ x.2 y.2 hB' hr').mono ?_;rintro e w' ⟨rfl,hg⟩;exact⟨rfl,hg.form⟩
theorem Ck (x y:OM):ltOf (fun x y:OM=>c3 (dI x.1) (dI y.1)) x y=decide (dI x.1<dI y.1):=by
 unfold ltOf c3;by_cases h1:dI x.1<dI y.1
 ·simp[h1]
 ·by_cases h2:dI y.1<dI x.1<;>simp[h1,h2]
theorem Da:SWO (ltOf fun x y:OM=>c3 (dI x.1) (dI y.1)) where
 irrefl x:=by rw[Ck];simp
 trans x y z h1 h2:=by rw[Ck]at *;simp at *;omega
 ntrans x y z h1 h2:=by rw[Ck]at *;simp at *;omega
shelf_lay_g SlLaysF0.n6 Slsf 6 at Tryz 178 as sortM
end Go.Proofs.YtelkehjdfcoeiaaGreat
