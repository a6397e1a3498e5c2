/-
  The model reads monomials (l3Number, l3Term, MonRead).
-/
import Derived.Test.YtkcmamepoplcdaaGreatDoorXaf
import Derived.Test.YtkcmamepoplcdaaGreatDoorXax
set_option maxHeartbeats 4000000
set_option maxRecDepth 100000
namespace Go.Proofs.YtkcmamepoplcdaaGreatDoor
open Go.RowKit
set_option linter.unusedVariables false
set_option linter.unusedSimpArgs false
theorem LG {s:List UInt8} {at0 j:Nat}:(s.drop at0)[j]? =s[at0+j]? :=List.getElem?_drop
theorem oT (s:List UInt8) (hs:s.length≤1048576) (p:Nat) (hp:p≤s.length) (w:World):Calls Tryz.prog 94 #[.string ⟨s.toArray⟩,.int .i64 (p:Int)] w fun r w'=>r= .returned (.tuple #[.int .i64 (nv (bV (s.drop p))),.int .i64 ((p+(bV (s.drop p)).length:Nat):Int)])∧w'=w:=by
 have hsI:(s.length:Int)≤1048576:=by omega
 obtain⟨l,hl⟩:∃l,s.drop p=l:=⟨_,rfl⟩
 have hll:l.length=s.length-p:=by rw[←hl];simp
 have HAT:Hid (∀j,l[j]? =s[p+j]?):=fun j=>by rw[←hl];exact LG
 rw[hl];have HLN:=aA hll
 clear hl hll;go_enter Tryz.func94,Tryz.ntmps94;go_wp2
 go_loop [6,7] (fun v6 v7=>∃(j q:Nat) (n:Int),j≤l.length∧q=p+j∧v7= .int .i64 (q:Int)∧v6= .int .i64 n∧Hid (n=nv (l.take j))∧Hid (∀i c,i<j→l[i]? =some c→jH c=true)) (fun _ v7=>s.length-(intOf v7).toNat)
 case atStart=>exact⟨0,p,0,gO _,rfl,rfl,rfl,aA rfl,fun i c hi=>by omega⟩
 case round=>
  obtain⟨j,q,n,hj,hq,rfl,rfl,HN,HD⟩:=hrel;have HQ:=aA hq
  clear hq;have hnb:0≤n∧n≤10000:=by rw[HN.out];refine RO _ fun c hc=>?_;obtain⟨i,hi,e⟩:=List.getElem_of_mem hc;rw[List.length_take]at hi;exact HD.out i c (by omega) (by rw[←e,List.getElem_take];exact List.getElem?_eq_getElem _)
  obtain⟨hn0,hn1⟩:=hnb;by_cases hjl:j<l.length
  ·have hqI:(q:Int)<(s.length:Int):=by have h1:=HLN.out;have h2:=HQ.out;omega
   obtain⟨c,hc⟩:∃c,l[j]? =some c:=⟨_,List.getElem?_eq_getElem hjl⟩
   have hix:=gJ (l:=s) (k:=q) (c:=c) (by rw[HQ.out,←HAT.out j];exact hc);have HC:=aA hc
   clear hc;obtain⟨z,hz⟩:∃z:Nat,c.toNat=z:=⟨_,rfl⟩
   have hdz:jH c=decide (48≤z∧z≤57):=by unfold jH;rw[hz]
   have HDZ:=aA hdz;have hz255:z<256:=by rw[←hz];exact c.toNat_lt
   have HNX:Hid (nv (l.take (j+1))=if n<1000 then n*10+((z:Int)-48)else n):=by
    rw[List.take_add_one,HC.out];show Hid (nv (l.take j++[c])=_)
    rw[vN,←HN.out,←hz];exact aA rfl
   rw[hz]at hix;clear hz hdz;have hw1:IntKind.i64.wrap (z:Int)=(z:Int):=by rw[IntKind.wrap_i64];omega
   by_cases hd:48≤z∧z≤57
   ·have HN2:Hid (∀i c,i<j+1→l[i]? =some c→jH c=true):=fun i c' hi hc'=>by
     by_cases e:i=j
     ·subst e;have e:=HC.out.symm.trans hc'
      cases e;rw[HDZ.out];exact decide_eq_true hd
     ·exact HD.out i c' (by omega) hc'
    obtain⟨hd1,hd2⟩:=hd;have hu1:IntKind.u8.wrap ((z:Int)-48)=(z:Int)-48:=by rcases(show z=48∨z=49∨z=50∨z=51∨z=52∨z=53∨z=54∨z=55∨z=56∨z=57 by omega)with rfl|rfl|rfl|rfl|rfl|rfl|rfl|rfl|rfl|rfl<;>decide
    have HIN:=aA (aM (z:Int) 48 57);by_cases hn:n<1000
    ·have HV:Hid (nv (l.take (j+1))=n*10+((z:Int)-48)):=by rw[HNX.out,if_pos hn];exact aA rfl
     go_wp2_with (first|(go_at_call 54;refine(HIN.out _ (by omega) (by omega)).mono ?_;rintro e w' ⟨rfl,rfl⟩));go_round;case rel=>exact⟨j+1,q+1,n*10+((z:Int)-48),by omega,by rw[HQ.out];omega,by go_num,by first|rfl|(congr 1;done)|(simp;done),aA HV.out.symm,HN2⟩
     case measure=>simp[intOf];omega
    ·have HV:Hid (nv (l.take (j+1))=n):=by rw[HNX.out,if_neg hn];exact aA rfl
     go_wp2_with (first|(go_at_call 54;refine(HIN.out _ (by omega) (by omega)).mono ?_;rintro e w' ⟨rfl,rfl⟩));go_round;case rel=>exact⟨j+1,q+1,n,by omega,by rw[HQ.out];omega,by go_num,rfl,aA HV.out.symm,HN2⟩
     case measure=>simp[intOf];omega
   ·have HF:Hid (l.take j=bV l):=aA (lS HD.out (fun c' hc'=>by
     have e:=HC.out.symm.trans hc';cases e
     rw[HDZ.out];exact decide_eq_false hd) hj)
    have hout:(z:Int)<48∨(48≤(z:Int)∧57<(z:Int)):=by omega
    have HOUT:=aA (fun u=>aJ (z:Int) 48 57 u hout);have HLL:Hid ((bV l).length=j):=by rw[←HF.out,List.length_take];exact aA (by omega)
    clear hout hd;go_wp2_with (first|(go_at_call 54;refine(HOUT.out _).mono ?_;rintro e w' ⟨rfl,rfl⟩));refine bC (v:=.tuple #[.int .i64 n,.int .i64 (q:Int)]) (by simp[results,Tryz.results94,go_sem]) rfl ⟨?_,rfl⟩;rw[HLL.out,←HF.out,←HN.out];have e:((p+j:Nat):Int)=(q:Int):=by rw[HQ.out]
    have e2:(p:Int)+(j:Int)=(q:Int):=by rw[HQ.out];simp
    first|rw[e]|rw[e2]
  ·have hje:j=l.length:=by omega
   have hqI:¬(q:Int)<(s.length:Int):=by have h1:=HLN.out;have h2:=HQ.out;omega
   have HF:Hid (l.take j=bV l):=aA (lS HD.out (fun c hc=>by
    have:=(List.getElem?_eq_some_iff.1 hc).1
    omega) hj)
   have HLL:Hid ((bV l).length=j):=by rw[←HF.out,List.length_take];exact aA (by omega)
   clear hje;go_wp2;refine bC (v:=.tuple #[.int .i64 n,.int .i64 (q:Int)]) (by simp[results,Tryz.results94,go_sem]) rfl ⟨?_,rfl⟩;rw[HLL.out,←HF.out,←HN.out];have e:((p+j:Nat):Int)=(q:Int):=by rw[HQ.out]
   have e2:(p:Int)+(j:Int)=(q:Int):=by rw[HQ.out];simp
   first|rw[e]|rw[e2]
end Go.Proofs.YtkcmamepoplcdaaGreatDoor
