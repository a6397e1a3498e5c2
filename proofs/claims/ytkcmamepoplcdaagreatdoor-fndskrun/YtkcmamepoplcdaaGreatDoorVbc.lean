/-
  The program reads a term (polTermRead).
-/
import Derived.Test.YtkcmamepoplcdaaGreatDoorVbb
set_option maxHeartbeats 2000000
namespace Go.Proofs.YtkcmamepoplcdaaGreatDoor
open Go.Shelf Go.RowKit
set_option linter.unusedVariables false
set_option linter.unusedSimpArgs false
theorem wW (c:UInt8):∀(l:List UInt8) (acc:Nat),Lib.parseUint10 acc (l++[c])=match Lib.parseUint10 acc l with| .ok u=>Lib.parseUint10 u [c]| .syntax=>.syntax| .range=>.range
 |[],acc=>rfl
 |x::l,acc=>by
  rw[List.cons_append];unfold Lib.parseUint10;by_cases h:48≤x.toNat∧x.toNat≤57
  ·rw[if_pos h,if_pos h];by_cases h1:1844674407370955162≤acc
   ·rw[if_pos h1,if_pos h1]
   ·rw[if_neg h1,if_neg h1];by_cases h2:18446744073709551616≤acc*10+(x.toNat-48)
    ·rw[if_pos h2,if_pos h2]
    ·rw[if_neg h2,if_neg h2];exact wW c l _
  ·rw[if_neg h,if_neg h]
theorem BP {u d:Nat} (hu:u<1000000) (hd:d<10):Lib.parseUint10 u [UInt8.ofNat (48+d)]= .ok (u*10+d):=by
 have e:(UInt8.ofNat (48+d)).toNat=48+d:=by rw[UInt8.toNat_ofNat'];omega
 unfold Lib.parseUint10;rw[e,if_pos (by omega),if_neg (by omega),if_neg (by omega)];unfold Lib.parseUint10;congr 1;omega
theorem wV {n:Nat} (h:n<10):Lib.parseUint10 0 (Lib.decDigits n)= .ok n:=by
 rw[dW h];have:=BP (u:=0) (by omega) h
 simpa using this
theorem OX {n:Nat} (h:n<100):Lib.parseUint10 0 (Lib.decDigits n)= .ok n:=by
 by_cases h1:n<10
 ·exact wV h1
 ·rw[eB h1,wW,wV (n:=n / 10) (by omega)];show Lib.parseUint10 (n / 10) [UInt8.ofNat (48+n%10)]=_
  rw[BP (by omega) (by omega)];congr 1;omega
theorem OY {n:Nat} (h:n<1000):Lib.parseUint10 0 (Lib.decDigits n)= .ok n:=by
 by_cases h1:n<10
 ·exact wV h1
 ·rw[eB h1,wW,OX (n:=n / 10) (by omega)];show Lib.parseUint10 (n / 10) [UInt8.ofNat (48+n%10)]=_
  rw[BP (by omega) (by omega)];congr 1;omega
theorem yA {d:List UInt8} (hd:∀c∈d,kC c=true) (h0:d≠[]):Lib.atoiAll d=Lib.signless (Lib.parseUint10 0 d):=by
 cases d with
 |nil=>exact absurd rfl h0
 |cons c r=>
  have hc:=of_decide_eq_true (hd c (by simp));rw[Lib.atoiAll_plain c r (by omega) (by omega)];unfold Lib.parseMag;rw[if_neg (by simp)]
theorem SY {d:List UInt8} (hd:∀c∈d,kC c=true) (h0:d≠[]) {v:Int} (h:Lib.atoiAll d= .ok v):0≤v∧v≤9223372036854775807:=by
 rw[yA hd h0]at h;refine⟨?_,(Lib.signless_bounds h).2⟩;cases e:Lib.parseUint10 0 d with
 |ok u=>
  rw[e]at h;unfold Lib.signless at h;split at h<;>first|cases h|(rename_i q;cases q;split at h<;>cases h;omega)|skip
 |«syntax»=>rw[e]at h;cases h
 |range=>rw[e]at h;cases h
theorem QL {n:Nat} (h:n≤100):Lib.atoiAll (Lib.decDigits n)= .ok (n:Int):=by have hd:∀c∈Lib.decDigits n,kC c=true:=iW n (by omega);rw[yA hd (AW n),OY (by omega)];unfold Lib.signless;simp;omega
def xR (d:List UInt8):Option Int:=if d=[]then some 1 else match Lib.atoiAll d with| .ok v=>some v|_=>none
def tJ (r:List UInt8):Option M:=if r=[]then some ⟨0,0,0,0⟩else if(lN r).2=true then some (lN r).1 else none
def fL (s:List UInt8):T×Bool:=match xR (cB s),tJ (s.drop (cB s).length)with
 |some c,some m=>(⟨c,m⟩,decide (fQ ⟨c,m⟩=s))
 |_,_=>(⟨0,⟨0,0,0,0⟩⟩,false)
theorem LO {s:List UInt8} (h:xR (cB s)=none):fL s=(⟨0,⟨0,0,0,0⟩⟩,false):=by unfold fL;rw[h]
theorem LQ {s:List UInt8} {c:Int} (hc:xR (cB s)=some c) (h:tJ (s.drop (cB s).length)=none):fL s=(⟨0,⟨0,0,0,0⟩⟩,false):=by unfold fL;rw[hc,h]
theorem DX {s:List UInt8} {c:Int} {m:M} (hc:xR (cB s)=some c) (h:tJ (s.drop (cB s).length)=some m):fL s=(⟨c,m⟩,decide (fQ ⟨c,m⟩=s)):=by unfold fL;rw[hc,h]
theorem JR {r:List UInt8} {m:M} (h:tJ r=some m):M.ok m=true:=by
 unfold tJ at h;split at h
 ·cases h;decide
 ·split at h
  ·rename_i q;cases h;rw[uT]at q⊢;split at q
   ·rename_i z;rw[if_pos z];exact z.2.1
   ·cases q
  ·cases h
theorem PZ {m:M} (h:M.ok m=true) (hne:dH m≠[]):tJ (dH m)=some m:=by
 have hl:(dH m).length≤40:=by have:=oO h;rw[fV h hne]at this;omega
 have e:lN (dH m)=(m,true):=by rw[uT,LR h hne,if_pos ⟨hl,h,fV h hne⟩]
 unfold tJ;rw[if_neg hne,e,if_pos rfl]
theorem QF (s:List UInt8):SX s (fL s).1 (fL s).2:=by
 refine⟨fun hb _=>?_,fun t0 hk hs=>?_⟩
 ·unfold fL at hb⊢;split at hb
  ·exact of_decide_eq_true hb
  ·cases hb
 ·have hd:∀c∈yL t0.c,kC c=true:=fun c hc=>iW _ (by have:=hk.1.2;omega) c hc;have hdn:yL t0.c≠[]:=AW _
  have hcc:xR (yL t0.c)=some t0.c:=by
   unfold xR;rw[if_neg hdn];have:=QL (n:=t0.c.toNat) (by have:=hk.1.2;omega)
   unfold yL;rw[this];show some _=_
   congr 1;have:=hk.1.1
   omega
  have fin:∀c m,xR (cB s)=some c→tJ (s.drop (cB s).length)=some m→(⟨c,m⟩:T)=t0→(fL s).1=t0∧(fL s).2=true:=fun c m h1 h2 h3=>by rw[DX h1 h2,h3];exact⟨rfl,decide_eq_true hs⟩
  rcases t0 with⟨c,m⟩
  simp only at hd hdn hcc hk;by_cases h0:m.x=0∧m.y=0∧m.d=0∧m.e=0
  ·have e:s=yL c:=by rw[←hs];unfold fQ;rw[if_pos h0]
   have hl:cB s=yL c:=by
    rw[e];have:=fN hd (t:=[]) (fun c r q=>by cases q)
    rwa[List.append_nil]at this
   refine fin c m (by rw[hl];exact hcc) ?_ rfl;rw[hl,e,List.drop_length];unfold tJ;rw[if_pos rfl];rcases m with⟨x,y,d,z⟩
   obtain⟨rfl,rfl,rfl,rfl⟩:=h0;rfl
  ·obtain⟨k,r,e,_⟩:=kK hk.2 h0;have hne:dH m≠[]:=by rw[e];simp
   by_cases h1:c=1
   ·have e2:s=dH m:=by rw[←hs];unfold fQ;rw[if_neg h0,if_pos h1,fV hk.2 hne]
    have hl:cB s=[]:=by rw[e2];exact fN (d:=[]) (fun _ q=>by cases q) (sK hk.2)
    refine fin 1 m (by rw[hl];rfl) ?_ (by rw[h1]);rw[hl,e2];exact PZ hk.2 hne
   ·have e2:s=yL c++dH m:=by rw[←hs];unfold fQ;rw[if_neg h0,if_neg h1,fV hk.2 hne]
    have hl:cB s=yL c:=by rw[e2];exact fN hd (sK hk.2)
    refine fin c m (by rw[hl];exact hcc) ?_ rfl;rw[hl,e2,List.drop_left];exact PZ hk.2 hne
theorem QM (l:List UInt8) (hl:l.length≤1000) (hn:l≠[]) (w:World) (h:Er w):Calls Tryz.prog 159 #[.string ⟨l.toArray⟩] w fun e w'=>Below w.heap.size w w'∧((∃v,xR l=some v∧e= .returned (.tuple #[.int .i64 v,.nilIface]))∨(xR l=none∧∃v t N,e= .returned (.tuple #[.int .i64 v,.iface t (.pointer (some ⟨N,0,none⟩))]))):=by
 have hs:(⟨l.toArray⟩:ByteArray).size=l.length:=kQ l;cases hv:Lib.atoiAll l with
 |ok v=>
  refine(Any.strconv_Atoi_ok layC172 ⟨l.toArray⟩ (by rw[hs];omega) v hv w).mono ?_;rintro e w' ⟨rfl,hw⟩;refine⟨?_,.inl ⟨v,?_,rfl⟩⟩
  ·rcases hw with rfl|⟨t,rfl⟩
   ·exact aD _ _
   ·exact uB w _ t
  ·unfold xR;rw[if_neg hn,hv]
 |«syntax»=>
  obtain⟨t,p,ht⟩:=h.1;refine(Any.strconv_Atoi_syntax_var layC172 ⟨l.toArray⟩ (by rw[hs];omega) hv t p w ht).mono ?_;rintro e w' ⟨N,rfl,_,_,hb⟩;exact⟨hb,.inr ⟨by unfold xR;rw[if_neg hn,hv],_,_,_,rfl⟩⟩
 |range=>
  obtain⟨t,p,ht⟩:=h.2;refine(Any.strconv_Atoi_range_var layC172 ⟨l.toArray⟩ (by rw[hs];omega) hv t p w ht).mono ?_;rintro e w' ⟨N,rfl,_,_,hb⟩;exact⟨hb,.inr ⟨by unfold xR;rw[if_neg hn,hv],_,_,_,rfl⟩⟩
end Go.Proofs.YtkcmamepoplcdaaGreatDoor
