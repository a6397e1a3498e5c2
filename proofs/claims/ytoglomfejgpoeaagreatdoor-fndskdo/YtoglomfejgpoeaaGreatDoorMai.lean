/-
  slices.SortedFunc of monomials, and keysInOrder, given what slices.SortFunc does.
-/
import Derived.Test.YtoglomfejgpoeaaGreatDoorMah
import Derived.Orders
set_option maxHeartbeats 1000000
set_option maxRecDepth 100000
namespace Go.Proofs.YtoglomfejgpoeaaGreatDoor
open Go.RowKit Go.Maps Go.Sort Go.Shelf
set_option linter.unusedVariables false
def nR    :Prop:=
 (∀(Br:Nat) (W:World) (gb cap:Nat) (d:Array OM),Br<W.heap.size→Br≠gb→W.cell? ⟨Br,0,none⟩=some (.func (.func 91) #[] #[])→HoldsK cX     4 W gb 0 d→gb<W.heap.size→d.size<4611686018427387904→
  Calls Tryz.prog 177 #[.slice (some ⟨gb,0,none⟩) d.size cap,.func (.func 153) #[] #[.pointer (some ⟨Br,0,none⟩)]] W fun e w'=>e= .returned (.tuple #[])∧
   ∃d' n os,PermIn 0 d.size d d'∧SortedIn (ltOf fun x y:OM=>c3 (dV  x.1) (dV  y.1)) 0 d.size d'∧w'=sortWorldK cX     4 W gb 0 n d' os)∧
 (∀(p:Option Addr) (cap:Nat) (fv:Value) (W:World),Calls Tryz.prog 177 #[.slice p 0 cap,fv] W fun e w'=>e= .returned (.tuple #[])∧w'=W)
theorem tF:∀(ss:List M) (i c:Nat) (h:i<ss.length),c<4→(gR ss)[i*4+c]? =(fW ss[i])[c]?
 |[],i,c,h,_=>by simp at h
 |x::r,0,c,_,hc=>by have e:gR (x::r)=fW x++gR r:=rfl;rw[e,List.getElem?_append_left (by simp[fW];omega)];simp
 |x::r,i+1,c,h,hc=>by
  have e:gR (x::r)=fW x++gR r:=rfl;have hl:(fW x).length=4:=rfl
  rw[e,List.getElem?_append_right (by rw[hl];omega),hl,show(i+1)*4+c-4=i*4+c by omega];exact tF r i c (by simpa using h) hc
theorem GC {W:World} {gb:Nat} {cur:Array Value} {t:TypeId} (dO:List OM) (hgb:W.heap[gb]? =some (.cells cur t (0,0))) (r4:cur.toList.take (dO.length*4)=gR (dO.map (·.1))):HoldsK cX 4 W gb 0 dO.toArray:=by
 intro j hj;rw[size_flatK]at hj;have hj':j<dO.length*4:=by simpa using hj
 refine⟨?_,by simp[World.frozen?,hgb]⟩;have h1:(cur.toList.take (dO.length*4))[j]? =(gR (dO.map (·.1)))[j]? :=by rw[r4]
 rw[List.getElem?_take_of_lt hj']at h1;have hi:j / 4<dO.length:=by omega
 have h2:=tF (dO.map (·.1)) (j / 4) (j%4) (by simpa using hi) (by omega);have e2:(dO.map (·.1))[j / 4]'(by simpa using hi)=(dO[j / 4]'hi).1:=List.getElem_map ..
 rw[show j / 4*4+j%4=j by omega,e2]at h2;simp only[World.cell?,hgb,Nat.zero_add];simp only[Option.isSome_none,Bool.false_eq_true,if_false];rw[←Array.getElem?_toList,h1,h2,id,get_flatK _ _ _ _ hj];have hx:dO.toArray[j / 4]! =dO[j / 4]'hi:=by rw[getElem!_pos dO.toArray (j / 4) (by simpa using hi)];simp
 rw[hx];generalize dO[j / 4]'hi=z;have hc:j%4<4:=by omega
 show(cX z)[j%4]? =some (cX z)[j%4]!
 rw[List.getElem?_eq_getElem (show j%4<(cX z).length from hc),getElem!_pos (cX z) (j%4) hc];rfl
structure pB (W:World) (p:Option Addr) (d:List M):Prop where
 here:∀i (h:i<d.length),∃g,p=some ⟨g,0,none⟩∧g<W.heap.size∧W.cell? ⟨g,i*4,none⟩=some (.int .i64 d[i].x)∧W.cell? ⟨g,i*4+1,none⟩=some (.int .i64 d[i].y)∧W.cell? ⟨g,i*4+2,none⟩=some (.int .i64 d[i].d)∧W.cell? ⟨g,i*4+3,none⟩=some (.int .i64 d[i].e)
theorem pB.keep {W W':World} {p:Option Addr} {d:List M} (h:pB W p d) (hs:W.heap.size≤W'.heap.size) (hk:∀g,p=some ⟨g,0,none⟩→W'.heap[g]? =W.heap[g]?):pB W' p d:=⟨fun i hi=>by
 obtain⟨g,hp,hg,c0,c1,c2,c3⟩:=h.here i hi;have hb:=hk g hp
 exact⟨g,hp,by omega,(kV (w:=W) (a:=⟨g,_,none⟩) hb).trans c0,(kV (w:=W) (a:=⟨g,_,none⟩) hb).trans c1,(kV (w:=W) (a:=⟨g,_,none⟩) hb).trans c2,(kV (w:=W) (a:=⟨g,_,none⟩) hb).trans c3⟩⟩
theorem kG {w:World} {g n:Nat} {os:Array Obj} (d:Array OM):w.grownBy (sortWorldK cX 4 w g 0 n d os) (some g):=by
 refine⟨rfl,rfl,rfl,by simp[sortWorldK,putRowK],fun k hk hne=>?_⟩;unfold sortWorldK;rw[heap_grow_old _ _ (by simpa[putRowK]using hk)];have:g≠k:=fun e=>hne (by rw[e])
 simp[putRowK,putRow,mapBlock,Sort.ahead,Array.getElem?_modify,this]
theorem uF {W:World} {gb n:Nat} {os:Array Obj} (d d':Array OM) (hH:HoldsK cX 4 W gb 0 d) (hgl:gb<W.heap.size) (hs:d'.size=d.size):pB (sortWorldK cX 4 W gb 0 n d' os) (some ⟨gb,0,none⟩) (d'.toList.map (·.1)):=⟨fun i hi=>by
 have hK:HoldsK cX 4 (sortWorldK cX 4 W gb 0 n d' os) gb 0 d':=by unfold sortWorldK;exact holdsK_grow (enc:=cX) (k:=4) _ _ _ _ _ (by rw[size_putRowK];exact hgl) (holdsK_putRowK (enc:=cX) (k:=4) _ _ _ d d' (holdsK_ahead (enc:=cX) (k:=4) _ _ _ _ _ hH) hs)
 have hi':i<d'.size:=by simpa using hi
 have hx:d'[i]! =d'[i]:=getElem!_pos d' i hi';have hgs:gb<(sortWorldK cX 4 W gb 0 n d' os).heap.size:=by unfold sortWorldK;rw[Go.Sort.size_grow,size_putRowK];exact dR hgl (Nat.le_add_right _ _)
 have k:∀c:Nat,c<4→_:=fun c hc=>(hK.cell (i:=i) (c:=c) hi' hc).1;have k0:=k 0 (by omega)
 have k1:=k 1 (by omega);have k2:=k 2 (by omega)
 have k3:=k 3 (by omega);rw[hx,Nat.zero_add]at k0 k1 k2 k3;have e:(d'.toList.map (·.1))[i]=(d'[i]).1:=by simp
 rw[e]
 exact⟨gb,rfl,hgs,k0,k1,k2,k3⟩⟩
theorem EI (hsort:nR) (g:Nat) (lb:Array Value) (eg:∀args w,(callFunc g args).run Tryz.prog w= .ok (.enter g args) w) (S:List M→Prop) (N:Nat) (hN:N≤1000000) (hok:∀ss,S ss→∀m∈ss,m.ok=true) (hle:∀ss,S ss→ss.length≤N) (w:World) (hseq:SeqGives Fence.wide 5 Tryz.prog g lb CM S N w) (Br:Nat) (hB:Br<w.heap.size) (hr:w.cell? ⟨Br,0,none⟩=some (.func (.func 91) #[] #[])):Calls Tryz.prog 151 #[.func (.func g) #[] lb,.func (.func 153) #[] #[.pointer (some ⟨Br,0,none⟩)]] w fun e w'=>∃(p:Option Addr) (cap:Nat) (dO:List OM) (ss:List M),e= .returned (.slice p dO.length cap)∧S ss∧(dO.map (·.1)).Perm ss∧dO.Pairwise (fun a b=>dV a.1≤dV b.1)∧pB w' p (dO.map (·.1))∧(∀k,p=some ⟨k,0,none⟩→w.heap.size≤k∧k<w'.heap.size)∧Below w.heap.size w w':=by
 go_enter Tryz.func151,Tryz.ntmps151;have hcol:=(callsIn_wide (n:=7)).1 (zJ (F:=Fence.wide) (n:=7) trivial trivial rfl (by omega) g lb trivial eg S N hN w hseq)
 go_wp2_with (go_at_call 176;refine hcol.mono ?_;rintro e W ⟨v,ss,rfl,hS,hrow,hnil,hb⟩);rcases hrow.2 with⟨rfl,hz⟩|⟨gb,cap,cur,rfl,hbase,hgb,r1,r2,r3,r4⟩
 ·have hss:ss=[]:=List.eq_nil_of_length_eq_zero hz;subst hss;go_wp2_with (go_at_call 177;refine(hsort.2 none 0 _ W).mono ?_;rintro e w' ⟨rfl,hw⟩;obtain rfl:=hw.symm;clear hw);go_ret;exact⟨none,0,[],[],rfl,hS,List.Perm.refl _,List.Pairwise.nil,⟨fun i h=>by simp at h⟩,fun k e=>(by cases e),hb⟩
 ·obtain⟨dO,hdO⟩:∃dO:List OM,dO.map (·.1)=ss:=⟨ss.pmap (fun m h=>(⟨m,h⟩:OM)) (hok ss hS),by simp[List.map_pmap]⟩
  have hl:dO.length=ss.length:=by rw[←hdO];simp
  rw[←hl]at r4;rw[←hdO]at r4;have hH:HoldsK cX 4 W gb 0 dO.toArray:=GC dO hgb r4
  have hgl:gb<W.heap.size:=(Array.getElem?_eq_some_iff.1 hgb).1;have hsz:dO.toArray.size<4611686018427387904:=by have:=hle ss hS;simp;omega
  have cS:=hsort.1 Br W gb cap dO.toArray (by have:=hb.size;omega) (by omega) ((hb.cell (p:=⟨Br,0,none⟩) hB).trans hr) hH hgl hsz;simp only[List.size_toArray,hl]at cS;go_wp2_with (go_at_call 177;refine cS.mono ?_;rintro e w' ⟨rfl,d',nn,os,hp,hs,hw⟩;obtain rfl:=hw.symm;clear hw);go_ret;obtain⟨hp1,hp2,hp3⟩:=hp;have hsd:d'.size=dO.length:=by simpa using hp1
  have hperm:d'.toList.Perm dO:=by
   have e1:d'.extract 0 ss.length=d':=by rw[←hl,←hsd];exact Array.extract_size
   have e2:dO.toArray.extract 0 ss.length=dO.toArray:=by rw[←hl];simp
   rw[e1,e2]at hp3;simpa using hp3
  refine⟨some ⟨gb,0,none⟩,cap,d'.toList,ss,?_,hS,?_,?_,uF dO.toArray d' hH hgl hp1,fun k e=>(by cases e;exact⟨hbase,dR hgl (kG d').size⟩),hb.grown (kG d') hb.size (fun j hj=>by cases hj;exact hbase)⟩
  ·rw[show d'.toList.length=ss.length by simp;omega];rfl
  ·rw[←hdO];exact hperm.map _
  ·rw[List.pairwise_iff_getElem];intro i j hi hj hij;have hi':i<d'.size:=by simpa using hi
   have hj':j<d'.size:=by simpa using hj
   have:=hs i j (gC _) hij (by omega);rw[getElem!_pos d' i hi',getElem!_pos d' j hj',JE]at this;simp at this;simpa using this
end Go.Proofs.YtoglomfejgpoeaaGreatDoor
namespace Go.Proofs.YtoglomfejgpoeaaGreatDoor
open Go.RowKit
set_option linter.unusedVariables false
def kE (a b:M):Bool:=decide (a.x=b.x∧a.y=b.y∧a.d=b.d∧a.e=b.e)
theorem cF {a b:M}:kE a b=true↔a=b:=by cases a;cases b;simp[kE]
theorem FU {p q y z:Int} (hy:0≤y∧y≤15) (hz:0≤z∧z≤15) (h:p*16+y=q*16+z):p=q∧y=z:=by omega
theorem KA {p q y z:Int} (hy:0≤y∧y≤65535) (hz:0≤z∧z≤65535) (h:p*65536+y=q*65536+z):y=z:=by omega
theorem rR {a b:M} (ha:a.ok=true) (hb:b.ok=true) (h:dV a=dV b):a=b:=by
 have ka:=M.ok_iff.1 ha;have kb:=M.ok_iff.1 hb
 have la:0≤jE a∧jE a≤65535:=by unfold jE;omega
 have lb:0≤jE b∧jE b≤65535:=by unfold jE;omega
 unfold dV at h;have h:=KA la lb h
 unfold jE at h;obtain⟨h,h1⟩:=FU ⟨ka.2.2.1,ka.2.2.2.1⟩ ⟨kb.2.2.1,kb.2.2.2.1⟩ h;obtain⟨h,h2⟩:=FU ⟨ka.1,ka.2.1⟩ ⟨kb.1,kb.2.1⟩ h;obtain⟨h,h3⟩:=FU ⟨ka.2.2.2.2.2.2.1,ka.2.2.2.2.2.2.2⟩ ⟨kb.2.2.2.2.2.2.1,kb.2.2.2.2.2.2.2⟩ h;cases a;cases b;simp only at h h1 h2 h3;subst h h1 h2 h3;rfl
def bY:List T→M→Int
 |[],_=>0
 |t::r,m=>if kE t.m m=true then t.c else bY r m
def aV (L:List T):Prop:=L.Pairwise (fun a b=>dV b.m<dV a.m)∧∀t∈L,t.m.ok=true∧1≤t.c∧t.c≤100
theorem iA {m:M}:∀{L:List T},(∀t∈L,dV t.m<dV m)→bY L m=0
 |[],_=>rfl
 |t::r,h=>by have h1:=h t (List.mem_cons_self ..);rw[bY,if_neg (fun e=>by rw[cF.1 e]at h1;omega)];exact iA (fun s hs=>h s (List.mem_cons_of_mem _ hs))
theorem iL {t:T} {r:List T} {m:M} (h:t.m≠m):bY (t::r) m=bY r m:=by rw[bY,if_neg (fun e=>h (cF.1 e))]
theorem cC (t:T) (r:List T):bY (t::r) t.m=t.c:=by rw[bY,if_pos (cF.2 rfl)]
theorem aV.tail {t:T} {r:List T} (h:aV (t::r)):aV r:=⟨(List.pairwise_cons.1 h.1).2,fun s hs=>h.2 s (List.mem_cons_of_mem _ hs)⟩
theorem aV.head {t:T} {r:List T} (h:aV (t::r)):∀s∈r,dV s.m<dV t.m:=(List.pairwise_cons.1 h.1).1
theorem pZ:∀{L K:List T},aV L→aV K→(∀m,m.ok=true→bY L m=bY K m)→L=K
 |[],[],_,_,_=>rfl
 |[],t::r,_,hK,h=>by
  have h1:=hK.2 t (List.mem_cons_self ..);have h2:=h t.m h1.1
  rw[cC,bY]at h2;omega
 |t::r,[],hL,_,h=>by
  have h1:=hL.2 t (List.mem_cons_self ..);have h2:=h t.m h1.1
  rw[cC,bY]at h2;omega
 |s::p,t::r,hL,hK,h=>by
  have hs:=hL.2 s (List.mem_cons_self ..);have ht:=hK.2 t (List.mem_cons_self ..)
  rcases Int.lt_trichotomy (dV s.m) (dV t.m)with hlt|heq|hgt
  ·have h2:=h t.m ht.1
   rw[cC,iA (fun u hu=>by
    rcases List.mem_cons.1 hu with rfl|hu
    ·exact hlt
    ·have:=hL.head u hu;omega)]at h2
   omega
  ·have hm:s.m=t.m:=rR hs.1 ht.1 heq;have hc:s.c=t.c:=by have h2:=h s.m hs.1;rw[cC,hm,cC]at h2;exact h2
   have hst:s=t:=by cases s;cases t;simp only at hm hc;subst hm hc;rfl
   subst hst;have hrest:∀m,m.ok=true→bY p m=bY r m:=fun m hok=>by
    by_cases hm2:s.m=m
    ·subst hm2;rw[iA hL.head,iA hK.head]
    ·have h2:=h m hok;rw[iL hm2,iL hm2]at h2;exact h2
   rw[pZ hL.tail hK.tail hrest]
  ·have h2:=h s.m hs.1
   rw[cC,iA (fun u hu=>by
    rcases List.mem_cons.1 hu with rfl|hu
    ·exact hgt
    ·have:=hK.head u hu;omega)]at h2
   omega
open Go.RowKit Go.Maps Go.Sort Go.Shelf
theorem iR {α:Type} [DecidableEq α]:∀(l r:List α),l.Nodup→(∀x∈l,x∈r)→l.length≤r.length
 |[],_,_,_=>gC _
 |x::l,r,hn,hs=>by
  rw[List.nodup_cons]at hn;have hx:x∈r:=hs x (List.mem_cons_self ..)
  have:=iR l (r.erase x) hn.2 (fun y hy=>(List.mem_erase_of_ne (fun e:y=x=>hn.1 (e▸hy))).2 (hs y (List.mem_cons_of_mem _ hy)));rw[List.length_erase_of_mem hx]at this;have:0<r.length:=List.length_pos_of_mem hx
  simp only[List.length_cons];omega
theorem BR {w:World} {b n:Nat} {D:DataW Unit} (h:w.ownsMap Tryz.prog 78 (plainElem Tryz.prog 99) b n D):Maps.size D≤n:=by obtain⟨es,clock,h1,F,h3,rfl⟩:=h;rw[size_eq,length_read];exact h3
theorem rU {w:World} {b n:Nat} {D:DataW Unit} (h:w.ownsMap Tryz.prog 78 (plainElem Tryz.prog 99) b n D) (ss:List M) (hk:∀kl,Maps.has D kl=true→∃m∈ss,kl=cN m):Maps.size D≤ss.length:=by
 have ht:=h.tidy lN;obtain⟨es,clock,h1,F,h3,hD⟩:=h;obtain⟨L,hL,hp⟩:=ht;have e:L=(es.toList.map (WideElems.rg Tryz.prog 78 (plainElem Tryz.prog 99))).foldr DataW.insert []:=by rw[hL]at hD;exact DataW.map.inj hD
 have hkeys:∀p∈L,∃m∈ss,p.1=cN m:=fun p hpL=>by
  refine hk p.1 ?_;rw[hL,has_eq,List.any_eq_true];refine⟨p,hpL,?_⟩;have hmem:p∈es.toList.map (WideElems.rg Tryz.prog 78 (plainElem Tryz.prog 99)):=by rw[e]at hpL;exact(WideShapes.sorted_perm _).mem_iff.1 hpL
  obtain⟨v,hv⟩:=fit_keys F p hmem;exact WideAt.sameKey_self (lN.key hv)
 rw[hL,size_eq]
 letI:DecidableEq Lit:=fun a b=>Classical.propDecidable (a=b)
 have:=iR (L.map (·.1)) (ss.map cN) (by rw[List.Nodup,List.pairwise_map];exact hp) (fun x hx=>by
  obtain⟨p,hpL,rfl⟩:=List.mem_map.1 hx;obtain⟨m,hm,he⟩:=hkeys p hpL;rw[he]
  exact List.mem_map_of_mem hm)
 simpa using this
theorem yK {l:List OM} (h:l.Pairwise (fun a b=>dV a.1≤dV b.1)) (hn:(l.map (·.1)).Nodup):l.Pairwise (fun a b=>dV a.1<dV b.1):=by
 rw[List.Nodup,List.pairwise_map]at hn;refine(h.and hn).imp ?_;rintro a b ⟨h1,h2⟩;rcases Int.lt_or_eq_of_le h1 with h|h
 ·exact h
 ·exact absurd (rR a.2 b.2 h) h2
theorem DU (hsort:nR) (w:World) (b n:Nat) (D:DataW Unit) (hown:w.ownsMap Tryz.prog 78 (plainElem Tryz.prog 99) b n D) (hks:∀kl,Maps.has D kl=true→∃m:M,m.ok=true∧kl=cN m) (hn:n≤1000000):Calls Tryz.prog 123 #[.map (some b),.func (.func 91) #[] #[]] w fun e w'=>∃(p:Option Addr) (cap:Nat) (dO:List OM),e= .returned (.slice p dO.length cap)∧dO.Pairwise (fun a b=>dV a.1<dV b.1)∧(∀m:M,m.ok=true→(m∈dO.map (·.1)↔Maps.has D (cN m)=true))∧dO.length=Maps.size D∧pB w' p (dO.map (·.1))∧(∀k,p=some ⟨k,0,none⟩→w.heap.size≤k∧k<w'.heap.size)∧Below w.heap.size w w':=by
 have hN:Maps.size D≤1000000:=gU (BR hown) hn;obtain⟨W1,hW1⟩:∃W1,w.alloc (.cells #[.func (.func 91) #[] #[]] 148)=W1:=⟨_,rfl⟩
 obtain⟨W2,hW2⟩:∃W2,W1.alloc (.cells #[.map (some b)] 100)=W2:=⟨_,rfl⟩
 have hs1:W1.heap.size=w.heap.size+1:=by rw[←hW1];simp
 have hs2:W2.heap.size=w.heap.size+2:=by rw[←hW2];simp[hs1]
 have hb1:Below w.heap.size w W1:=by rw[←hW1];exact(aD _ w).alloc (Nat.le_refl _) _
 have hb2:Below w.heap.size w W2:=by rw[←hW2];exact hb1.alloc hb1.size _
 have hr1:W1.cell? ⟨w.heap.size,0,none⟩=some (.func (.func 91) #[] #[]):=by rw[←hW1];exact(Boxed.new w _ _).cell
 have hr2:W2.cell? ⟨w.heap.size,0,none⟩=some (.func (.func 91) #[] #[]):=by rw[←hW2];exact(kV (w:=W1) (a:=⟨w.heap.size,0,none⟩) (Below.heap_alloc W1 _ w.heap.size (by omega))).trans hr1
 have hm2:W2.cell? ⟨w.heap.size+1,0,none⟩=some (.map (some b)):=by rw[←hs1,←hW2];exact(Boxed.new W1 _ _).cell
 have hown2:W2.ownsMap Tryz.prog 78 (plainElem Tryz.prog 99) b n D:=by rw[←hW2,←hW1];exact(hown.alloc _).alloc _
 have hseq:SeqGives Fence.wide 5 Tryz.prog 178 #[.pointer (some ⟨w.heap.size+1,0,none⟩)] CM (uL D) (Maps.size D) W2:=xR trivial rfl (by omega) _ b n D W2 (by omega) hks hm2 hown2;have hS:=EI hsort 178 _ (enters_of Tryz.func178 (by kernel_rfl) rfl) (uL D) _ hN (fun ss h=>h.2.1) (fun ss h=>h.2.2.2) W2 hseq w.heap.size (by omega) hr2
 have hK:=(callsIn_wide (n:=5)).1 (IU (F:=Fence.wide) (n:=5) trivial rfl (some b) W1);rw[hs1]at hK;clear hseq hm2 hr2 hr1;go_enter Tryz.func123,Tryz.ntmps123
 go_wp2_with (first
  |(go_at_call 152;refine hK.mono ?_;rintro e W ⟨rfl,hw⟩;obtain rfl:=hw.trans hW2;clear hw)
  |(go_at_call 151;refine hS.mono ?_;rintro e W3 ⟨p,cap,dO,ss,rfl,hS3,hp3,hs3,hv3,hp4,hb3⟩))
 go_ret;have hnd:(dO.map (·.1)).Nodup:=hp3.symm.nodup hS3.1
 have hmem:∀m:M,m.ok=true→(m∈dO.map (·.1)↔Maps.has D (cN m)=true):=fun m hm=>by rw[hp3.mem_iff];exact hS3.2.2.1 m hm
 refine⟨p,cap,dO,rfl,yK hs3 hnd,hmem,?_,hv3,fun k e=>(by have:=hp4 k e;omega),hb2.trans (hb3.mono (by omega))⟩;have h1:dO.length=ss.length:=by have:=hp3.length_eq;simpa using this
 have h2:=rU hown ss (fun kl hkl=>by
  obtain⟨m,hm,rfl⟩:=hks kl hkl
  exact⟨m,(hS3.2.2.1 m hm).2 hkl,rfl⟩)
 have h3:=hS3.2.2.2;omega
attribute [local go_sem] Oper.semAt_some
abbrev BA:Type:=Nat×OM
def DH (x:BA):Array Value:=#[.int .i64 (x.1:Int),.agg #[.int .i64 x.2.1.x,.int .i64 x.2.1.y,.int .i64 x.2.1.d,.int .i64 x.2.1.e]]
def gS (d:List OM) (i:Nat):BA:=(i,d.getD i default)
def eR (d:List OM) (k:Nat):List BA:=(List.range (d.length-k)).map fun j=>gS d (d.length-1-j)
theorem sT (d:List OM):eR d d.length=[]:=by simp[eR]
theorem uS (d:List OM) (k:Nat) (h:k<d.length):eR d (k+1)++[gS d k]=eR d k:=by unfold eR;rw[show d.length-k=(d.length-(k+1))+1 by omega,List.range_succ,List.map_append];simp only[List.map_cons,List.map_nil];rw[show d.length-1-(d.length-(k+1))=k by omega]
theorem lD (d:List OM) (k:Nat):(eR d k).length=d.length-k:=by simp[eR]
def oH (Bm:Nat) (p:Option Addr) (W W':World):Prop:=W.heap.size≤W'.heap.size∧∀k,(k=Bm∨p=some ⟨k,0,none⟩)→W'.heap[k]? =W.heap[k]?
theorem DS {Bm:Nat} {p:Option Addr} {A B C:World} (h:oH Bm p A B) (k:oH Bm p B C):oH Bm p A C:=⟨gU h.1 k.1,fun i hi=>(k.2 i hi).trans (h.2 i hi)⟩
theorem DR {Bm:Nat} {p:Option Addr} {w:World} (hB:Bm<w.heap.size) (hp:∀k,p=some ⟨k,0,none⟩→k<w.heap.size) (W:World) (l:Nat) (o o':Obj) (hl:w.heap.size≤l) (h:W.heap[l]? =some o) (_:o.isCells=false) (_:o.isWalk=false):oH Bm p W (W.putObj l o'):=
 ⟨by rw[World.putObj_size];exact Nat.le_refl _,fun k hk=>World.putObj_heap_other (by rcases hk with rfl|hk;omega;have:=hp k hk;omega)⟩
theorem IH {F:Fence} {n:Nat} (h7:F.fn 122) (hro:F.round=none) (p:Option Addr) (k cap:Nat) (w:World):CallsIn F n Tryz.prog 122 #[.slice p k cap] w fun e w'=>e= .returned (.func (.func 150) #[] #[.pointer (some ⟨w.heap.size,0,none⟩)])∧w'=w.alloc (.cells #[.slice p k cap] 146):=by
 refine callsIn_of_wp Tryz.func122 rfl h7 ?_ hro;simp only[Tryz.ntmps122,List.size_toArray,List.length_cons,List.length_nil,Nat.reduceAdd,Nat.reduceSub,Array.replicate_succ,Array.replicate_zero,List.push_toArray,List.append_toArray,List.nil_append,List.cons_append]
 gi_wp2
 go_ret;exact⟨rfl,rfl⟩
theorem FL {F:Fence} {n:Nat} (h10:F.fn 150) (hro:F.round=none) (hn:1≤n) (l Bm cap:Nat) (p:Option Addr) (d:List OM) (hd:d.length≤1000000) (J Jx:List BA→World→Prop) (hY:∀pre x W,J pre W→pre.length<d.length→YieldAt F (n-1) Tryz.prog l (DH x) W fun e W'=>(e= .returned (.bool true)∧J (pre++[x]) W'∧oH Bm p W W')∨(e= .returned (.bool false)∧Jx (pre++[x]) W')) (W:World) (hbox:W.cell? ⟨Bm,0,none⟩=some (.slice p d.length cap)) (hrow:pB W p (d.map (·.1))) (h0:J [] W):CallsIn F n Tryz.prog 150 #[.func (.yield l) #[] #[],.pointer (some ⟨Bm,0,none⟩)] W fun e W'=>(∃v,e= .returned v)∧((∃xs,xs=eR d 0∧J xs W')∨(∃pre,True∧Jx pre W')):=by
 refine callsIn_of_wp Tryz.func150 rfl h10 ?_ hro;simp only[Tryz.ntmps150,List.size_toArray,List.length_cons,List.length_nil,Nat.reduceAdd,Nat.reduceSub,Array.replicate_succ,Array.replicate_zero,List.push_toArray,List.append_toArray,List.nil_append,List.cons_append]
 gi_wp2
 gi_loopw [3] (fun v wr=>∃k:Nat,k≤d.length∧v= .int .i64 ((k:Int)-1)∧J (eR d k) wr∧wr.cell? ⟨Bm,0,none⟩=some (.slice p d.length cap)∧pB wr p (d.map (·.1))) (fun v _=>(RowKit.intOf v+1).toNat)
 case atStart=>
  exact⟨d.length,Nat.le_refl _,rfl,by rw[sT];exact h0,hbox,hrow⟩
 case round=>
  obtain⟨k,hk,rfl,hJ,hb,hR⟩:=hrel;cases k with
  |zero=>
   gi_wp2
   go_end0
   exact⟨⟨_,rfl⟩,.inl ⟨_,rfl,hJ⟩⟩
  |succ k=>
   have e1:((k+1:Nat):Int)-1=(k:Int):=by omega
   rw[e1];have hi:k<d.length:=by omega
   obtain⟨g,rfl,hgl,c0,c1,c2,c3⟩:=hR.here k (by simpa using hi);have HR:=aA hR
   have hYk:=hY (eR d (k+1)) (gS d k) _ hJ (by rw[lD];omega);rw[uS d k hi]at hYk;have eM:(d.map (·.1))[k]'(by simpa using hi)=(gS d k).2.1:=by simp[gS,hi]
   rw[eM]at c0 c1 c2 c3;have hk1:(gS d k).1=k:=rfl
   clear hR eM hY;obtain⟨fn,tmps,assign,body,hy,hRd⟩:=hYk;dsimp only[DH]at hy;rw[hk1]at hy;clear hk1;generalize(gS d k).2.1=m at c0 c1 c2 c3 hy
   gi_wp2
   refine hRd.mono ?_;rintro e W3 (⟨rfl,hJ3,hk3⟩|⟨rfl,hJx3⟩)
   ·have hb3:W3.cell? ⟨Bm,0,none⟩=some (.slice (some ⟨g,0,none⟩) d.length cap):=(kV (w:=wr) (a:=⟨Bm,0,none⟩) (hk3.2 Bm (.inl rfl))).trans hb
    gi_wp2
    go_roundw;case rel=>exact⟨k,by omega,rfl,hJ3,hb3,HR.out.keep hk3.1 (fun g' e=>hk3.2 g' (.inr e))⟩
    case measure=>simp only[RowKit.intOf];omega
   ·gi_wp2
    refine bT (results_none rfl _ _ _) rfl ?_;exact⟨⟨_,rfl⟩,.inr ⟨_,trivial,hJx3⟩⟩
theorem xD {n:Nat} (hn:1≤n) (Bm cap:Nat) (p:Option Addr) (d:List OM) (hd:d.length≤1000000) (w:World) (hBm:Bm<w.heap.size) (hbox:w.cell? ⟨Bm,0,none⟩=some (.slice p d.length cap)) (hrow:pB w p (d.map (·.1))) (hp:∀k,p=some ⟨k,0,none⟩→k<w.heap.size):SeqStopsK Fence.wide n Tryz.prog 150 #[.pointer (some ⟨Bm,0,none⟩)] DH (oH Bm p) (fun xs=>xs=eR d 0) (fun _=>True) d.length w:=fun l J Jx W hW _ _ hY h0=>
 FL (F:=Fence.wide) trivial rfl hn l Bm cap p d hd J Jx hY W ((hW.cell (p:=⟨Bm,0,none⟩) hBm).trans hbox) (hrow.keep hW.size (fun g e=>hW.block g (hp g e))) h0
end Go.Proofs.YtoglomfejgpoeaaGreatDoor
namespace Go.Proofs.YtoglomfejgpoeaaGreatDoor
open Go.RowKit
def eD (l:Array Bool):Nat:=(l.toList.filter (fun b=>b==false)).length
theorem nG:∀(l:List Bool) (i:Nat),l[i]? =some false→((l.set i true).filter (fun b=>b==false)).length+1=(l.filter (fun b=>b==false)).length
 |[],i,h=>by simp at h
 |b::r,0,h=>by simp at h;subst h;simp
 |b::r,i+1,h=>by have ih:=nG r i (by simpa using h);cases b<;>simp at ih⊢<;>omega
theorem eE {l:Array Bool} {i:Nat} (h:l[i]? =some false):eD (l.setIfInBounds i true)+1=eD l:=by unfold eD;rw[Array.toList_setIfInBounds];exact nG _ _ (by simpa using h)
theorem fM:∀(l:List Bool),(l.filter (fun b=>b==false)).length=0→∀i:Nat,l[i]? ≠some false
 |[],_,i,h=>by simp at h
 |b::r,hl,0,h=>by simp at h;subst h;simp at hl
 |b::r,hl,i+1,h=>by refine fM r ?_ i (by simpa using h);cases b<;>simp at hl⊢;exact hl
theorem bC {l:Array Bool} {i:Nat} (h:l.getD i true=false):l[i]? =some false:=by
 rw[Array.getD_eq_getD_getElem?]at h;cases hx:l[i]? with
 |none=>rw[hx]at h;simp at h
 |some b=>rw[hx]at h;simp at h;rw[h]
theorem mP {P:Program} {md:Region.Mode} {ops:Array Oper} {Q:Exit→Act→World→Prop} {I:Array Bool→Act→World→Prop} (hs:∀l a w,I l a w→∀i∈Region.ready md ops l,wpOp P ops Q i (I (l.setIfInBounds i true)) a w) (he:∀l a w,I l a w→Region.ready md ops l=[]→Q .normal a w):∀(fuel:Nat) (l:Array Bool) (a:Act) (w:World),eD l≤fuel→I l a w→wpAny P md ops Q fuel l a w
 |0,l,a,w,hf,hI=>by
  have hr:Region.ready md ops l=[]:=by
   rw[List.eq_nil_iff_forall_not_mem];intro i hi;have h0:=bC (mem_ready.1 hi).1
   exact fM l.toList (by unfold eD at hf;omega) i (by simpa using h0)
  exact⟨hr,he l a w hI hr⟩
 |fuel+1,l,a,w,hf,hI=>by
  refine⟨fun hr=>he l a w hI hr,fun i hi=>?_⟩;have h0:=bC (mem_ready.1 hi).1
  have h1:=eE h0;exact wpOp_mono (fun a' w' h=>mP hs he fuel _ a' w' (by omega) h) (hs l a w hI i hi)
theorem dG (n:Nat):eD (Array.replicate n false)=n:=by unfold eD;simp
set_option linter.unusedVariables false
theorem bG {ops:Array Oper} {l:Array Bool} {i:Nat} {o:Oper} (hi:i∈Region.ready .any ops l) (ho:ops[i]? =some o) (k:Nat) (hk:o.after.any (fun e=>Region.binds .any e&&e.on==k)=true):l.getD k false=true:=by obtain⟨_,o',ho',ha⟩:=mem_ready.1 hi;rw[ho]at ho';obtain rfl:=Option.some.inj ho';rw[Array.any_eq_true']at hk;obtain⟨e,he,hh⟩:=hk;simp only[Bool.and_eq_true,beq_iff_eq]at hh;rw[←hh.2];exact ha e he hh.1
theorem fE {l:Array Bool} {i:Nat} (d:Bool) (h:i<l.size):(l.setIfInBounds i true).getD i d=true:=by rw[Array.getD_eq_getD_getElem?,Array.getElem?_setIfInBounds_self_of_lt h];rfl
theorem qL (n k:Nat):(Array.replicate n false).getD k false=false:=by rw[Array.getD_eq_getD_getElem?,Array.getElem?_replicate];split<;>rfl
def cZ (ops:Array Oper) (l:Array Bool):Prop:=∀i o,ops[i]? =some o→l.getD i false=true→∀e∈o.after,Region.binds .any e=true→l.getD e.on false=true
theorem cZ.start (ops:Array Oper) (n:Nat):cZ ops (Array.replicate n false):=fun i o _ h=>by rw[qL]at h;cases h
theorem cZ.step {ops:Array Oper} {l:Array Bool} {i:Nat} (h:cZ ops l) (hi:i∈Region.ready .any ops l) (hl:l.size=ops.size):cZ ops (l.setIfInBounds i true):=by
 intro j o ho hj e he hb;obtain⟨_,o',ho',ha⟩:=mem_ready.1 hi;have hil:i<l.size:=by rw[hl];exact(Array.getElem?_eq_some_iff.1 ho').1
 have hd:l.getD e.on false=true:=by
  by_cases hji:j=i
  ·subst hji;rw[ho]at ho';obtain rfl:=Option.some.inj ho';exact ha e he hb
  ·rw[getD_set_ne false (fun e=>hji e.symm)]at hj;exact h j o ho hj e he hb
 by_cases hei:e.on=i
 ·rw[hei,fE false hil]
 ·rw[getD_set_ne false (fun e=>hei e.symm)];exact hd
theorem cZ.dep {ops:Array Oper} {l:Array Bool} {i:Nat} {o:Oper} (h:cZ ops l) (ho:ops[i]? =some o) (hd:l.getD i false=true) (k:Nat) (hk:o.after.any (fun e=>Region.binds .any e&&e.on==k)=true):l.getD k false=true:=by rw[Array.any_eq_true']at hk;obtain⟨e,he,hh⟩:=hk;simp only[Bool.and_eq_true,beq_iff_eq]at hh;rw[←hh.2];exact h i o ho hd e he hh.1
theorem cG {l:Array Bool} {i:Nat} (h:l.getD i true=false):l.getD i false=true→False:=fun k=>by
 rw[Array.getD_eq_getD_getElem?]at h k;cases hx:l[i]? with
 |none=>rw[hx]at h;simp at h
 |some b=>rw[hx]at h k;simp at h k;rw[h]at k;cases k
theorem pN {ops:Array Oper} {l:Array Bool} (h:(List.range ops.size).all (fun i=>match ops[i]? with|some o=>o.after.all (fun e=> !Region.binds .any e||decide (e.on<i))|none=>true)=true) (hr:Region.ready .any ops l=[]) (hl:l.size=ops.size):∀i,i<ops.size→l.getD i false=true:=by
 intro i;induction i using Nat.strongRecOn with
 |_ i ih=>
  intro hi;cases hx:l.getD i false
  ·exfalso;rw[List.eq_nil_iff_forall_not_mem]at hr;refine hr i (mem_ready.2 ⟨?_,ops[i],Array.getElem?_eq_getElem hi,fun e he hb=>?_⟩)
   ·rw[Array.getD_eq_getD_getElem?]at hx⊢;rw[Array.getElem?_eq_getElem (by omega)]at hx⊢;simpa using hx
   ·rw[List.all_eq_true]at h;have h1:=h i (List.mem_range.2 hi)
    rw[Array.getElem?_eq_getElem hi]at h1;simp only[Array.all_eq_true']at h1;have h2:=h1 e he
    rw[hb]at h2;simp at h2;exact ih e.on h2 (by omega)
  ·rfl
theorem mK {n k:Nat} {p:Prop} (h:(Array.replicate n false).getD k false=true):p:=by rw[qL]at h;cases h
end Go.Proofs.YtoglomfejgpoeaaGreatDoor
