/-
  The program reads a term (polTermRead).
-/
import Derived.Test.YtkcmamepoplcdaaGreatDoorXba
set_option maxHeartbeats 2000000
namespace Go.Proofs.YtkcmamepoplcdaaGreatDoor
open Go.Shelf Go.RowKit
set_option linter.unusedVariables false
set_option linter.unusedSimpArgs false
theorem vX (c:UInt8):∀(l:List UInt8) (acc:Nat),Lib.parseUint10 acc (l++[c])=match Lib.parseUint10 acc l with| .ok u=>Lib.parseUint10 u [c]| .syntax=>.syntax| .range=>.range
 |[],acc=>rfl
 |x::l,acc=>by
  rw[List.cons_append];unfold Lib.parseUint10;by_cases h:48≤x.toNat∧x.toNat≤57
  ·rw[if_pos h,if_pos h];by_cases h1:1844674407370955162≤acc
   ·rw[if_pos h1,if_pos h1]
   ·rw[if_neg h1,if_neg h1];by_cases h2:18446744073709551616≤acc*10+(x.toNat-48)
    ·rw[if_pos h2,if_pos h2]
    ·rw[if_neg h2,if_neg h2];exact vX c l _
  ·rw[if_neg h,if_neg h]
theorem AD {u d:Nat} (hu:u<1000000) (hd:d<10):Lib.parseUint10 u [UInt8.ofNat (48+d)]= .ok (u*10+d):=by
 have e:(UInt8.ofNat (48+d)).toNat=48+d:=by rw[UInt8.toNat_ofNat'];omega
 unfold Lib.parseUint10;rw[e,if_pos (by omega),if_neg (by omega),if_neg (by omega)];unfold Lib.parseUint10;congr 1;omega
theorem vW {n:Nat} (h:n<10):Lib.parseUint10 0 (Lib.decDigits n)= .ok n:=by
 rw[dH h];have:=AD (u:=0) (by omega) h
 simpa using this
theorem MY {n:Nat} (h:n<100):Lib.parseUint10 0 (Lib.decDigits n)= .ok n:=by
 by_cases h1:n<10
 ·exact vW h1
 ·rw[dL h1,vX,vW (n:=n / 10) (by omega)];show Lib.parseUint10 (n / 10) [UInt8.ofNat (48+n%10)]=_
  rw[AD (by omega) (by omega)];congr 1;omega
theorem MZ {n:Nat} (h:n<1000):Lib.parseUint10 0 (Lib.decDigits n)= .ok n:=by
 by_cases h1:n<10
 ·exact vW h1
 ·rw[dL h1,vX,MY (n:=n / 10) (by omega)];show Lib.parseUint10 (n / 10) [UInt8.ofNat (48+n%10)]=_
  rw[AD (by omega) (by omega)];congr 1;omega
theorem wX {d:List UInt8} (hd:∀c∈d,jH c=true) (h0:d≠[]):Lib.atoiAll d=Lib.signless (Lib.parseUint10 0 d):=by
 cases d with
 |nil=>exact absurd rfl h0
 |cons c r=>
  have hc:=of_decide_eq_true (hd c (by simp));rw[Lib.atoiAll_plain c r (by omega) (by omega)];unfold Lib.parseMag;rw[if_neg (by simp)]
theorem QW {d:List UInt8} (hd:∀c∈d,jH c=true) (h0:d≠[]) {v:Int} (h:Lib.atoiAll d= .ok v):0≤v∧v≤9223372036854775807:=by
 rw[wX hd h0]at h;refine⟨?_,(Lib.signless_bounds h).2⟩;cases e:Lib.parseUint10 0 d with
 |ok u=>
  rw[e]at h;unfold Lib.signless at h;split at h<;>first|cases h|(rename_i q;cases q;split at h<;>cases h;omega)|skip
 |«syntax»=>rw[e]at h;cases h
 |range=>rw[e]at h;cases h
theorem OK {n:Nat} (h:n≤100):Lib.atoiAll (Lib.decDigits n)= .ok (n:Int):=by have hd:∀c∈Lib.decDigits n,jH c=true:=iE n (by omega);rw[wX hd (zM n),MZ (by omega)];unfold Lib.signless;simp;omega
def wP (d:List UInt8):Option Int:=if d=[]then some 1 else match Lib.atoiAll d with| .ok v=>some v|_=>none
def sM (r:List UInt8):Option M:=if r=[]then some ⟨0,0,0,0⟩else if(kV r).2=true then some (kV r).1 else none
def eZ (s:List UInt8):T×Bool:=match wP (bV s),sM (s.drop (bV s).length)with
 |some c,some m=>(⟨c,m⟩,decide (fE ⟨c,m⟩=s))
 |_,_=>(⟨0,⟨0,0,0,0⟩⟩,false)
theorem JT {s:List UInt8} (h:wP (bV s)=none):eZ s=(⟨0,⟨0,0,0,0⟩⟩,false):=by unfold eZ;rw[h]
theorem JU {s:List UInt8} {c:Int} (hc:wP (bV s)=some c) (h:sM (s.drop (bV s).length)=none):eZ s=(⟨0,⟨0,0,0,0⟩⟩,false):=by unfold eZ;rw[hc,h]
theorem CK {s:List UInt8} {c:Int} {m:M} (hc:wP (bV s)=some c) (h:sM (s.drop (bV s).length)=some m):eZ s=(⟨c,m⟩,decide (fE ⟨c,m⟩=s)):=by unfold eZ;rw[hc,h]
theorem GU {r:List UInt8} {m:M} (h:sM r=some m):M.ok m=true:=by
 unfold sM at h;split at h
 ·cases h;decide
 ·split at h
  ·rename_i q;cases h;rw[uA]at q⊢;split at q
   ·rename_i z;rw[if_pos z];exact z.2.1
   ·cases q
  ·cases h
theorem NX {m:M} (h:M.ok m=true) (hne:cX m≠[]):sM (cX m)=some m:=by
 have hl:(cX m).length≤40:=by have:=nS h;rw[fJ h hne]at this;omega
 have e:kV (cX m)=(m,true):=by rw[uA,JV h hne,if_pos ⟨hl,h,fJ h hne⟩]
 unfold sM;rw[if_neg hne,e,if_pos rfl]
theorem OD (s:List UInt8):QV s (eZ s).1 (eZ s).2:=by
 refine⟨fun hb _=>?_,fun t0 hk hs=>?_⟩
 ·unfold eZ at hb⊢;split at hb
  ·exact of_decide_eq_true hb
  ·cases hb
 ·have hd:∀c∈xJ t0.c,jH c=true:=fun c hc=>iE _ (by have:=hk.1.2;omega) c hc;have hdn:xJ t0.c≠[]:=zM _
  have hcc:wP (xJ t0.c)=some t0.c:=by
   unfold wP;rw[if_neg hdn];have:=OK (n:=t0.c.toNat) (by have:=hk.1.2;omega)
   unfold xJ;rw[this];show some _=_
   congr 1;have:=hk.1.1
   omega
  have fin:∀c m,wP (bV s)=some c→sM (s.drop (bV s).length)=some m→(⟨c,m⟩:T)=t0→(eZ s).1=t0∧(eZ s).2=true:=fun c m h1 h2 h3=>by rw[CK h1 h2,h3];exact⟨rfl,decide_eq_true hs⟩
  rcases t0 with⟨c,m⟩
  simp only at hd hdn hcc hk;by_cases h0:m.x=0∧m.y=0∧m.d=0∧m.e=0
  ·have e:s=xJ c:=by rw[←hs];unfold fE;rw[if_pos h0]
   have hl:bV s=xJ c:=by
    rw[e];have:=fA hd (t:=[]) (fun c r q=>by cases q)
    rwa[List.append_nil]at this
   refine fin c m (by rw[hl];exact hcc) ?_ rfl;rw[hl,e,List.drop_length];unfold sM;rw[if_pos rfl];rcases m with⟨x,y,d,z⟩
   obtain⟨rfl,rfl,rfl,rfl⟩:=h0;rfl
  ·obtain⟨k,r,e,_⟩:=jP hk.2 h0;have hne:cX m≠[]:=by rw[e];simp
   by_cases h1:c=1
   ·have e2:s=cX m:=by rw[←hs];unfold fE;rw[if_neg h0,if_pos h1,fJ hk.2 hne]
    have hl:bV s=[]:=by rw[e2];exact fA (d:=[]) (fun _ q=>by cases q) (rP hk.2)
    refine fin 1 m (by rw[hl];rfl) ?_ (by rw[h1]);rw[hl,e2];exact NX hk.2 hne
   ·have e2:s=xJ c++cX m:=by rw[←hs];unfold fE;rw[if_neg h0,if_neg h1,fJ hk.2 hne]
    have hl:bV s=xJ c:=by rw[e2];exact fA hd (rP hk.2)
    refine fin c m (by rw[hl];exact hcc) ?_ rfl;rw[hl,e2,List.drop_left];exact NX hk.2 hne
theorem OL (l:List UInt8) (hl:l.length≤1000) (hn:l≠[]) (w:World) (h:Er w):Calls Tryz.prog 159 #[.string ⟨l.toArray⟩] w fun e w'=>Below w.heap.size w w'∧((∃v,wP l=some v∧e= .returned (.tuple #[.int .i64 v,.nilIface]))∨(wP l=none∧∃v t N,e= .returned (.tuple #[.int .i64 v,.iface t (.pointer (some ⟨N,0,none⟩))]))):=by
 have hs:(⟨l.toArray⟩:ByteArray).size=l.length:=jY l;cases hv:Lib.atoiAll l with
 |ok v=>
  refine(Any.strconv_Atoi_ok layC172 ⟨l.toArray⟩ (by rw[hs];omega) v hv w).mono ?_;rintro e w' ⟨rfl,hw⟩;refine⟨?_,.inl ⟨v,?_,rfl⟩⟩
  ·rcases hw with rfl|⟨t,rfl⟩
   ·exact aD _ _
   ·exact tF w _ t
  ·unfold wP;rw[if_neg hn,hv]
 |«syntax»=>
  obtain⟨t,p,ht⟩:=h.1;refine(Any.strconv_Atoi_syntax_var layC172 ⟨l.toArray⟩ (by rw[hs];omega) hv t p w ht).mono ?_;rintro e w' ⟨N,rfl,_,_,hb⟩;exact⟨hb,.inr ⟨by unfold wP;rw[if_neg hn,hv],_,_,_,rfl⟩⟩
 |range=>
  obtain⟨t,p,ht⟩:=h.2;refine(Any.strconv_Atoi_range_var layC172 ⟨l.toArray⟩ (by rw[hs];omega) hv t p w ht).mono ?_;rintro e w' ⟨N,rfl,_,_,hb⟩;exact⟨hb,.inr ⟨by unfold wP;rw[if_neg hn,hv],_,_,_,rfl⟩⟩
end Go.Proofs.YtkcmamepoplcdaaGreatDoor
