/-
  The program's RedAll.
  The model's division.
  The model's division, to its end.
-/
import Derived.Test.YtmlaedpamobmhaaGreatMEaa
import Derived.Test.YtmlaedpamobmhaaGreatMbk
set_option maxHeartbeats 8000000
set_option maxRecDepth 100000
namespace Go.Proofs.YtmlaedpamobmhaaGreat
open Go.RowKit Go.Deep Go.Joins Go.Maps
set_option linter.unusedVariables false
set_option linter.unusedSimpArgs false
open Go.RowKit Go.Deep Go.Joins
def Dw (w:World) (n:Nat) (R:Option Dv) (r:Ending) (w':World):Prop:=
 Below w.heap.size w w'∧((∃S qa qc ad cp ra rc,R=some S∧r= .returned (.tuple #[.slice qa n qc,.slice ra S.r.length rc,.bool true])∧eJ w' qa n qc ad (fun i=>(S.q i).length) cp (fun i=>lf (S.q i))∧RL w' ra rc S.r)∨(R=none∧∃qa qc ra rc,r= .returned (.tuple #[.slice qa 0 qc,.slice ra 0 rc,.bool false])))
theorem KY.plain {w:World} {n:Nat} {R:Option Dv} {r:Ending} {w':World} (h:KY w n R r w'):Dw w n R r w':=⟨h.1,h.2.imp (fun⟨S,qa,qc,ad,cp,ra,rc,e1,e2,r1,r2,_⟩=>⟨S,qa,qc,ad,cp,ra,rc,e1,e2,r1,r2⟩) id⟩
theorem Cn (w:World) (o:Int) (pa0:Option Addr) (zV:Nat) (p:List T) (a:Option Addr) (n cap:Nat) (ad0:Nat→Option Addr) (ln cp0:Nat→Nat) (f:Nat→Nat→T) (hp:RL w pa0 zV p) (h:eJ w a n cap ad0 ln cp0 f) (o1:1≤o) (o2:o≤3) (hpo:cM p=true) (hl:aU n ln f=true):Calls Tryz.prog 57 #[.int .i64 o,.slice pa0 p.length zV,.slice a n cap] w fun r w'=>Dw w n (fE o n ln f 300 (lG p)) r w':=
 (LT w o pa0 zV p a n cap ad0 ln cp0 f hp h o1 o2 hpo hl).mono fun _ _ h=>h.plain
open Go.RowKit
def DJ (o:Int) (n:Nat) (L:Nat→List T) (i k:Nat):Nat:=
 match aZ o (lf (L i)) (L i).length (lf (L k)) (L k).length with
 |(s,true)=>(match bJ o s n (lN L) (fN L)with
  |some S=>if S.r.length=0 then 2 else 1
  |none=>0)
 |(_,false)=>0
def lK (o:Int) (n:Nat) (L:Nat→List T):Bool:=decide ((1≤o∧o≤3)∧aU n (lN L) (fN L)=true∧∀k,k<n→∀i,i<k→DJ o n L i k=2)
theorem KC {o:Int} {n:Nat} {L:Nat→List T} {i k:Nat} {s:List T} (h:aZ o (lf (L i)) (L i).length (lf (L k)) (L k).length=(s,false)):DJ o n L i k=0:=by unfold DJ;rw[h]
theorem GJ {o:Int} {n:Nat} {L:Nat→List T} {i k:Nat} {s:List T} (h:aZ o (lf (L i)) (L i).length (lf (L k)) (L k).length=(s,true)) (hr:bJ o s n (lN L) (fN L)=none):DJ o n L i k=0:=by unfold DJ;rw[h];simp only[hr]
theorem GK {o:Int} {n:Nat} {L:Nat→List T} {i k:Nat} {s:List T} {S:Dv} (h:aZ o (lf (L i)) (L i).length (lf (L k)) (L k).length=(s,true)) (hr:bJ o s n (lN L) (fN L)=some S):DJ o n L i k=if S.r.length=0 then 2 else 1:=by unfold DJ;rw[h];simp only[hr]
theorem uK {o:Int} {n:Nat} {L:Nat→List T} {i k:Nat} (hk:k<n) (hi:i<k) (h:DJ o n L i k≠2):lK o n L=false:=decide_eq_false (fun hh=>h (hh.2.2 k hk i hi))
theorem Cd (w:World) (o:Int) (a:Option Addr) (n cap:Nat) (ad:Nat→Option Addr) (cp:Nat→Nat) (L:Nat→List T) (h:eJ w a n cap ad (lN L) cp (fN L)):Calls Tryz.prog 20 #[.int .i64 o,.slice a n cap] w (LE w (.bool (lK o n L))):=by
 have q1:(n:Int)≤140737488351232:=by have:=h.2.1;omega
 obtain⟨r,hr⟩:∃r,lK o n L=r:=⟨_,rfl⟩
 rw[hr];have HR:=aA hr
 have HH:=aA h;clear h hr;unfold LE;by_cases ho:1≤o∧o≤3
 ·obtain⟨o1,o2⟩:=ho;cases hl:aU n (lN L) (fN L)
  ·have hrf:r=false:=by rw[←HR.out];exact decide_eq_false (fun hh=>by rw[hl]at hh;exact absurd hh.2.1 (by simp))
   subst hrf;go_enter Tryz.func20,Tryz.ntmps20;go_wp2_with (go_at_call 43;refine(dE _ _ _ _ (by omega) (by omega)).mono ?_;rintro r w' ⟨rfl,hw'⟩;obtain rfl:=hw'.symm;clear hw');refine(rH _ _ _ _ _ _ _ _ HH.out).mono ?_;rw[hl];rintro r w2 ⟨rfl,hb2⟩;have HB2:=aA hb2
   clear hb2;go_wp2;go_ret;exact⟨rfl,HB2.out⟩
  ·have n12:=(aR hl).1;have hn12:(n:Int)≤12:=by omega
   have HL:=aA hl;go_enter Tryz.func20,Tryz.ntmps20;go_wp2_with (go_at_call 43;refine(dE _ _ _ _ (by omega) (by omega)).mono ?_;rintro r w' ⟨rfl,hw'⟩;obtain rfl:=hw'.symm;clear hw');refine(rH _ _ _ _ _ _ _ _ HH.out).mono ?_;rw[hl];rintro r0 w2 ⟨rfl,hb2⟩;have HB2:=aA hb2
   clear hb2 hl;go_wp2;go_loopw [5] (fun v wr=>∃k:Nat,1≤k∧(k≤n∨k=1)∧v= .int .i64 (k:Int)∧Below w.heap.size w wr∧∀k',k'<k→k'<n→∀i,i<k'→DJ o n L i k'=2) (fun v _=>n-(intOf v).toNat);case atStart=>exact⟨1,Nat.le_refl _,.inr rfl,rfl,HB2.out,fun k' h1 h2 i hi=>by omega⟩
   case round=>
    obtain⟨k,hk1,hk2,rfl,hB,hJ⟩:=hrel;have HJ:=aA hJ
    have HB:=aA hB;clear hJ;by_cases hlt:k<n
    ·have hkl:(k:Int)<(n:Int):=by omega
     go_wp2;go_loopw [6] (fun v wr=>∃i:Nat,i≤k∧v= .int .i64 (i:Int)∧Below w.heap.size w wr∧∀i',i'<i→DJ o n L i' k=2) (fun v _=>k-(intOf v).toNat);case atStart=>exact⟨0,gY _,rfl,HB.out,fun i hi=>by omega⟩
     case round=>
      obtain⟨i,hi,rfl,hBi,hI⟩:=hrel;have HI:=aA hI
      have HBi:=aA hBi;clear hI;by_cases hik:i<k
      ·have hil:(i:Int)<(k:Int):=by omega
       have hin:(i:Int)<(n:Int):=by omega
       rcases HH.out.2.2.1 with h0|⟨b,off,rfl,hblt,hcl⟩
       ·omega
       have dr:Below wr.heap.size wr wr.drew:=(bQ _ _).drew;have hBd:=aB hBi dr
       have hbd:b<wr.heap.size:=iZ hblt hBi.size;obtain⟨A,hA⟩:∃A,L i=A:=⟨_,rfl⟩
       obtain⟨Bk,hBk⟩:∃A,L k=A:=⟨_,rfl⟩
       have hS:Aa b (off+i) b (off+k) (.slice (ad i) A.length (cp i)) (.slice (ad k) Bk.length (cp k)) wr.drew:=⟨(hBd.cell (p:=⟨b,off+i,none⟩) hblt).trans (by rw[←hA];exact hcl i (by omega)),(hBd.cell (p:=⟨b,off+k,none⟩) hblt).trans (by rw[←hBk];exact hcl k hlt)⟩
       have RA:Hid (RL wr.drew (ad i) (cp i) A):=by rw[←hA];exact(HH.out.2.2.2 i (by omega)).below hBd
       have RB:Hid (RL wr.drew (ad k) (cp k) Bk):=by rw[←hBk];exact(HH.out.2.2.2 k hlt).below hBd
       have HS:=aA hS;have HBd:=aA hBd
       obtain⟨s,sb,hsp⟩:∃s sb,aZ o (lf A) A.length (lf Bk) Bk.length=(s,sb):=⟨_,_,rfl⟩
       have hc:=NI (w:=wr.drew) o RA.out RB.out;rw[hsp]at hc;have HC:=aA hc
       have hsp':aZ o (lf (L i)) (L i).length (lf (L k)) (L k).length=(s,sb):=by rw[hA,hBk];exact hsp
       have HSP:=aA hsp';clear hcl hS hc hsp hsp' hA hBk hBi hBd dr;cases sb
       ·have hrf:r=false:=by rw[←HR.out];exact uK hlt hik (by rw[KC HSP.out];omega)
        subst hrf;go_wp2_with fail;have hS:=HS.out
        go_region_held3 (fun u=>u.cell? ⟨b,off+i,none⟩=some (.slice (ad i) A.length (cp i))∧u.cell? ⟨b,off+k,none⟩=some (.slice (ad k) Bk.length (cp k))) (first|with_reducible exact hS|with_reducible exact Aa.below hS b5) (first|(go_at_call 56;refine HC.out.mono ?_;rintro e w5 ⟨za,zc,rfl,b5,hz⟩))
        have HB5:=aA (aB HBd.out b5);clear hS b5 hz;go_wp2;go_ret;exact⟨rfl,HB5.out⟩
       ·have hso:=KQ HSP.out;have HSO:=aA hso
        clear hso;go_wp2_with fail;have hS:=HS.out
        go_region_held3 (fun u=>u.cell? ⟨b,off+i,none⟩=some (.slice (ad i) A.length (cp i))∧u.cell? ⟨b,off+k,none⟩=some (.slice (ad k) Bk.length (cp k))) (first|with_reducible exact hS|with_reducible exact Aa.below hS b5) (first|(go_at_call 56;refine HC.out.mono ?_;rintro e w5 ⟨za,zc,rfl,b5,hz⟩))
        have HB5:=aA (aB HBd.out b5);have HZ5:=aA hz
        have HH5:=aA (HH.out.below HB5.out);clear hS b5 hz HC RA RB;go_wp2_with fail;refine(Cn w5 o za zc s _ n cap ad (lN L) cp (fN L) HZ5.out HH5.out o1 o2 HSO.out HL.out).mono ?_;rw[←BS ⟨o1,o2⟩ HSO.out HL.out];obtain⟨R,hR⟩:∃R,bJ o s n (lN L) (fN L)=R:=⟨_,rfl⟩
        rw[hR];have HRR:=aA hR
        clear hR;rintro e w6 ⟨b6,hh⟩;have HB6:=aA (aB HB5.out b6)
        clear b6;rcases hh with⟨S,qa,qc,ad',cp',ra,rc,rfl,rfl,r1,r2⟩|⟨rfl,qa,qc,ra,rc,rfl⟩
        ·clear r1 r2;have hpk:=GK HSP.out HRR.out
         by_cases hz:S.r.length=0
         ·rw[if_pos hz]at hpk;have HPK:=aA hpk
          have hz0:¬(0:Int)<(S.r.length:Int):=by omega
          clear hpk hz;go_wp2;go_roundw
          case rel=>exact⟨i+1,by omega,by go_num,HB6.out,fun i' hi'=>by
           by_cases e:i'=i
           ·rw[e];exact HPK.out
           ·exact HI.out i' (by omega)⟩
          case measure=>simp[intOf];omega
         ·rw[if_neg hz]at hpk;have hrf:r=false:=by rw[←HR.out];exact uK hlt hik (by rw[hpk];omega)
          subst hrf;have hz0:(0:Int)<(S.r.length:Int):=by omega
          clear hpk hz;go_wp2;go_ret;exact⟨rfl,HB6.out⟩
        ·have hrf:r=false:=by rw[←HR.out];exact uK hlt hik (by rw[GJ HSP.out HRR.out];omega)
         subst hrf;go_wp2;go_ret;exact⟨rfl,HB6.out⟩
      ·have hie:i=k:=by omega
       subst hie;have hnl:¬(i:Int)<(i:Int):=by omega
       go_wp2;go_roundw
       case rel=>exact⟨i+1,by omega,by omega,by go_num,HBi.out,fun k' h1 h2 i' hi'=>by
        by_cases e:k'=i
        ·subst e;exact HI.out i' hi'
        ·exact HJ.out k' (by omega) h2 i' hi'⟩
       case measure=>simp[intOf];omega
    ·have hnl:¬(k:Int)<(n:Int):=by omega
     have hrt:r=true:=by rw[←HR.out];exact decide_eq_true ⟨⟨o1,o2⟩,HL.out,fun k' hk' i hi=>HJ.out k' (by omega) hk' i hi⟩
     subst hrt;go_wp2;go_ret;exact⟨rfl,HB.out⟩
 ·have ho':o<1∨(1≤o∧3<o):=by omega
  have hrf:r=false:=by rw[←HR.out];exact decide_eq_false (fun hh=>ho hh.1)
  subst hrf;clear ho;go_enter Tryz.func20,Tryz.ntmps20;go_wp2_with (go_at_call 43;refine(dY _ _ _ _ ho').mono ?_;rintro r w' ⟨rfl,hw'⟩;obtain rfl:=hw'.symm;clear hw');go_ret;exact⟨rfl,bQ _ _⟩
theorem Fv (w:World) (lo Q z:Nat) (lv:Value) (m:Nat) (kf:Nat→T) (B:Nat→Nat) (a e:Nat) (h:jK w lo Q z lv m kf B a e) (hae:a≤e) (b:Nat) (hb:gO w b (mF kf e) none) (hlo:lo≤b) (hbQ:b≠Q) (hbl:lv.ownBlock≠some b) (hbB:∀j,a≤j→j<e→B j≠b):Calls Tryz.prog 92 #[.pointer (some ⟨Q,z,none⟩),.pointer (some ⟨b,0,none⟩)] w fun r w'=>r= .returned (.tuple #[])∧jK w' lo Q z lv m kf (wI B e b) a (e+1)∧Fr (fun k=>k=Q∨(a<e∧k=B (e-1))) w w':=by
 have HP:=aA (h.push hae hb hlo hbQ hbl hbB);obtain⟨tv,ht,ht2⟩:=h.ct;have c0:=h.cf
 have z1:=h.fz.2.1;have z2:=h.fz.2.2
 by_cases hlt:a<e
 ·obtain rfl:=ht2 hlt;have e0:qF B a e=some ⟨B a,0,none⟩:=if_pos hlt
  rw[e0]at c0;have hp:=h.pr (e-1) (by omega) (by omega)
  have k1:=hp.nx;have k2:=hp.fz
  have hne:B (e-1)≠Q:=(h.bk (e-1) (by omega) (by omega)).2.1;have HQ:=HP.out
  rw[if_pos hlt]at HQ;have HF:Hid (Fr (fun k=>k=Q∨(a<e∧k=B (e-1))) w ((w.setCell ⟨B (e-1),12,none⟩ (.pointer (some ⟨b,0,none⟩))).setCell ⟨Q,z+2,none⟩ (.pointer (some ⟨b,0,none⟩)))):=((Fr.refl _ w).set (fun _=>.inr ⟨hlt,rfl⟩)).set (fun _=>.inl rfl)
  have HQ2:=aA HQ;obtain⟨L,hL⟩:∃L,B (e-1)=L:=⟨_,rfl⟩
  rw[hL]at ht k1 k2 hne;have HL:=aA hL
  clear h hp HQ ht2 e0 HP hb hL hbB;go_enter Tryz.func92,Tryz.ntmps92;go_wp2
  go_end0
  refine⟨rfl,?_⟩;have h1:=HQ2.out
  have h2:=HF.out;rw[HL.out]at h1;rw[←HL.out]at h1⊢;exact⟨h1,h2⟩
 ·have e0:qF B a e=none:=if_neg hlt;rw[e0]at c0;have HQ:=HP.out
  rw[if_neg hlt]at HQ;have HF:Hid (Fr (fun k=>k=Q∨(a<e∧k=B (e-1))) w ((w.setCell ⟨Q,z+1,none⟩ (.pointer (some ⟨b,0,none⟩))).setCell ⟨Q,z+2,none⟩ (.pointer (some ⟨b,0,none⟩)))):=((Fr.refl _ w).set (fun _=>.inl rfl)).set (fun _=>.inl rfl)
  have HQ2:=aA HQ;clear h HQ ht2 e0 HP hb hbB;go_enter Tryz.func92,Tryz.ntmps92;go_wp2
  go_end0
  exact⟨rfl,HQ2.out,HF.out⟩
theorem He (w:World) (lo Q z:Nat) (lv:Value) (m:Nat) (kf:Nat→T) (B:Nat→Nat) (a e:Nat) (h:jK w lo Q z lv m kf B a e) (hlt:a<e):Calls Tryz.prog 54 #[.pointer (some ⟨Q,z,none⟩)] w fun r w'=>r= .returned (.pointer (some ⟨B a,0,none⟩))∧jK w' lo Q z lv m kf B (a+1) e∧gO w' (B a) (mF kf a) (qF B (a+1) e)∧Fr (fun k=>k=Q) w w':=by
 have HP:=aA (h.pop hlt);have c0:=h.cf
 have z1:=h.fz.2.1;have e0:qF B a e=some ⟨B a,0,none⟩:=if_pos hlt
 rw[e0]at c0;have hp:=h.pr a (Nat.le_refl _) hlt
 have k1:=hp.nx;have k2:(if a+1<e then some (⟨B (a+1),0,none⟩:Addr)else none)=qF B (a+1) e:=rfl
 rw[k2]at k1;have hne:B a≠Q:=(h.bk a (Nat.le_refl _) hlt).2.1
 have HF:Hid (Fr (fun k=>k=Q) w (w.setCell ⟨Q,z+1,none⟩ (.pointer (qF B (a+1) e)))):=(Fr.refl _ w).set (fun _=>rfl);clear h hp e0 k2;go_enter Tryz.func54,Tryz.ntmps54;go_wp2;go_ret;exact⟨rfl,HP.out.1,HP.out.2,HF.out⟩
theorem Ej (w:World) (lo Q z:Nat) (lv:Value) (m:Nat) (kf:Nat→T) (B:Nat→Nat) (a:Nat) (h:jK w lo Q z lv m kf B a (aT m)) (ha:a≤aT m) (hm:m≤12) (hlo:lo≤w.heap.size) (t:T) (ht:kf m=t):Calls Tryz.prog 52 #[.pointer (some ⟨Q,z,none⟩),.agg #[.int .i64 t.c,.int .i64 t.m.x,.int .i64 t.m.y,.int .i64 t.m.d,.int .i64 t.m.e]] w fun r w'=>r= .returned (.tuple #[])∧∃lv' B',jK w' lo Q z lv' (m+1) kf B' a (aT (m+1))∧(∀j,j<aT m→B' j=B j)∧(∀j,aT m≤j→j<aT (m+1)→w.heap.size≤B' j)∧(∀g,lv'.ownBlock=some g→lv.ownBlock=some g∨w.heap.size≤g)∧Fr (QS Q lv B a (aT m)) w w':=by
 obtain⟨i0,hi0,hz0,hz1,hz2⟩:=info_parts vU;have bo:=aC w (.cells #[.int .i64 t.c,.int .i64 t.m.x,.int .i64 t.m.y,.int .i64 t.m.d,.int .i64 t.m.e] 54)
 have HQ0:=aA (h.below bo);have HF0:Hid (Fr (QS Q lv B a (aT m)) w (w.alloc (.cells #[.int .i64 t.c,.int .i64 t.m.x,.int .i64 t.m.y,.int .i64 t.m.d,.int .i64 t.m.e] 54))):=aV bo
 have HL0:=aA (C5.box w 54 t);have hQw:Q<w.heap.size:=h.lt
 have hlen:((List.range m).map kf).length=m:=by simp
 obtain⟨la,lc,hlv,hout⟩:=aI h.own (by rw[hlen];omega);rw[hlen]at hlv;subst hlv;have hgw:∀g,(Value.slice la m lc).ownBlock=some g→g<w.heap.size:=fun g hg=>(h.own.lt g hg).2
 have hBw:∀j,a≤j→j<aT m→B j<w.heap.size:=fun j j1 j2=>(h.pr j j1 j2).lt;have HGW:=aA hgw
 have HBW:=aA hBw;have hml:(m:Int)≤12:=by omega
 have c0:=(h.below bo).cl;clear h hout hgw hBw;go_enter Tryz.func52,Tryz.ntmps52;go_wp2;clear c0 bo;generalize hw0:w.alloc (.cells #[.int .i64 t.c,.int .i64 t.m.x,.int .i64 t.m.y,.int .i64 t.m.d,.int .i64 t.m.e] 54)=w0 at *;have hs0:w.heap.size≤w0.heap.size:=HF0.out.size
 clear hw0;go_loopw [11] (fun v wr=>∃(i:Nat) (Bi:Nat→Nat),i≤m∧v= .int .i64 (i:Int)∧jK wr lo Q z (.slice la m lc) m kf Bi a (aT m+i)∧(∀j,j<aT m→Bi j=B j)∧(∀j,aT m≤j→j<aT m+i→w.heap.size<Bi j)∧Fr (QS Q (.slice la m lc) B a (aT m)) w wr∧C5 wr w.heap.size t) (fun v _=>m-(intOf v).toNat);case atStart=>exact⟨0,B,gY _,rfl,HQ0.out,fun _ _=>rfl,fun j j1 j2=>by omega,HF0.out,HL0.out⟩
 case round=>
  obtain⟨i,Bi,hi,rfl,hQ,hB1,hB2,hF,hL⟩:=hrel;have HB1:=aA hB1
  have HB2:=aA hB2;have HF:=aA hF
  have HQ:=aA hQ;have HLD:=aA hL
  have hsr:w.heap.size≤wr.heap.size:=hF.size;clear hB1 hB2;by_cases hlt:i<m
  ·have hil:(i:Int)<(m:Int):=by omega
   obtain⟨la2,lc2,hlv2,hout2⟩:=aI hQ.own (by rw[hlen];omega);rw[hlen]at hlv2;obtain⟨rfl,rfl⟩:la=la2∧lc=lc2:=by injection hlv2 with e1 e2 e3;exact⟨e1,e3⟩
   rcases hout2.1.2.2 with h0|⟨bb,off,rfl,hblt,hcl⟩
   ·omega
   obtain⟨g0,g1,g2,g3,g4⟩:=hcl i (by rw[hlen];exact hlt);rw[TG kf hlt]at g0 g1 g2 g3 g4;obtain⟨t1,ht1⟩:∃t1,kf i=t1:=⟨_,rfl⟩
   rw[ht1]at g0 g1 g2 g3 g4;have be:=aC wr (.cells #[.int .i64 t1.c,.int .i64 t1.m.x,.int .i64 t1.m.y,.int .i64 t1.m.d,.int .i64 t1.m.e] 54)
   have HS0:=aA ((tZ.mk (C5.box wr 54 t1) (hL.below be) (hQ.below be).cl).below (bQ _ _).drew);have hpr:mF kf (aT m+i)=⟨fV t1 (M.both t1.m t.m),fV t (M.both t1.m t.m),i,m⟩:=by unfold mF;rw[mP m i hlt,ht1,ht]
   have HPR:=aA hpr;have HC:=fun(W:World)=>KO W t1 t
   generalize fV t1 (M.both t1.m t.m)=u at HC HPR;generalize fV t (M.both t1.m t.m)=v at HC HPR;have HQd:=aA ((hQ.below be).below (bQ _ _).drew)
   have HFd:=aA ((hF.next be).next (bQ _ _).drew);have HLd:=aA ((hL.below be).below (bQ _ _).drew)
   have hsd:w.heap.size≤(wr.alloc (.cells #[.int .i64 t1.c,.int .i64 t1.m.x,.int .i64 t1.m.y,.int .i64 t1.m.d,.int .i64 t1.m.e] 54)).drew.heap.size:=HFd.out.size;have hBd:∀j,a≤j→j<aT m+i→Bi j<wr.heap.size:=fun j j1 j2=>(hQ.pr j j1 j2).lt
   have HBD:=aA hBd;have hlg:∀g,(Value.slice (some ⟨bb,off,none⟩) m lc).ownBlock=some g→g<wr.heap.size:=fun g hg=>(hQ.own.lt g hg).2
   have HLG:=aA hlg;clear hcl hout2 hlv2 hQ hF hL be hpr hBd hlg;go_wp2_with fail;clear g0 g1 g2 g3 g4;have hS:=HS0.out
   go_region_held3 (fun u=>tZ u wr.heap.size w.heap.size Q z t1 t (.slice (some ⟨bb,off,none⟩) m lc)) (first|with_reducible exact hS|with_reducible exact tZ.below hS b5|with_reducible exact tZ.below (tZ.below hS b5) (aC _ _)|with_reducible exact hS8) (first|(go_at_call 93;refine(HC _).mono ?_;rintro e w5 ⟨rfl,b5⟩)|(go_at_call 92;have hP:gO (w5.alloc (.cells #[.int .i64 u.c,.int .i64 u.m.x,.int .i64 u.m.y,.int .i64 u.m.d,.int .i64 u.m.e,.int .i64 v.c,.int .i64 v.m.x,.int .i64 v.m.y,.int .i64 v.m.d,.int .i64 v.m.e,.int .i64 (i:Int),.int .i64 (m:Int),.pointer none] 129)) w5.heap.size (mF kf (aT m+i)) none:=(by rw[HPR.out];exact gO.box w5 129 ⟨u,v,i,m⟩ none);have hsz5:=b5.size;refine(Fv _ lo Q z _ m kf Bi a (aT m+i) ((HQd.out.below b5).below (aC _ _)) (by omega) _ hP (by simp at hsz5;omega) (by simp at hsz5;omega) (fun q=>by have:=HLG.out _ q;simp at hsz5;omega) (fun j j1 j2=>by have:=HBD.out j j1 j2;simp at hsz5;omega)).mono ?_;rintro e w8 ⟨rfl,hq8,hf8⟩;have hS8:tZ w8 wr.heap.size w.heap.size Q z t1 t (.slice (some ⟨bb,off,none⟩) m lc):=tZ.fr (tZ.below (tZ.below hS b5) (aC _ _)) hf8 (fun q=>by rcases q with q|⟨q1,q2⟩;(· omega);(· have:=HBD.out (aT m+i-1) (by omega) (by omega);omega)) (fun q=>by rcases q with q|⟨q1,q2⟩;(· omega);(· rcases Nat.lt_or_ge (aT m+i-1) (aT m)with k|k;(· have:=HB1.out _ k;have:=HBW.out (aT m+i-1) (by omega) k;omega);(· have:=HB2.out _ k (by omega);omega))) hq8.cl))
   have hL8:C5 w8 w.heap.size t:=hS8.c5
   have hF8:Fr (QS Q (.slice (some ⟨bb,off,none⟩) m lc) B a (aT m)) w w8:=((HFd.out.next b5).next (aC _ _)).step hf8 (fun k hk q=>by
    rcases q with q|⟨q1,q2⟩
    ·exact .inl q
    ·rcases Nat.lt_or_ge (aT m+i-1) (aT m)with k'|k'
     ·by_cases e0:i=0
      ·subst e0;exact .inr (.inr ⟨by omega,by rw[q2];exact HB1.out _ k'⟩)
      ·omega
     ·have:=HB2.out _ k' (by omega)
      omega)
   have hs5:w.heap.size<w5.heap.size:=by have:=b5.size;simp at this;omega
   have HQ8:=aA hq8;have HL8:=aA hL8
   have HF8:=aA hF8;clear hS hS8 hq8 hf8 hL8 hF8 b5 HC hP hsz5;go_wp2;go_roundw
   case rel=>exact⟨i+1,wI Bi (aT m+i) w5.heap.size,by omega,by go_num,HQ8.out,fun j hj=>by
    unfold wI;rw[if_neg (by omega)];exact HB1.out j hj,fun j j1 j2=>by
    unfold wI;split
    ·exact hs5
    ·exact HB2.out j j1 (by omega),HF8.out,HL8.out⟩
   case measure=>simp[intOf];omega
  ·have hie:i=m:=by omega
   subst hie;have hnl:¬(i:Int)<(i:Int):=by omega
   have bd:Below wr.heap.size wr wr.drew:=(bQ _ _).drew;have ba:=aC wr.drew (.cells #[.int .i64 t.c,.int .i64 t.m.x,.int .i64 t.m.y,.int .i64 t.m.d,.int .i64 t.m.e] 54)
   have hQa:=(hQ.below bd).below ba;have c0:=hQ.cl
   have z0:=hQ.fz.1;obtain⟨l0,l1,l2,l3,l4⟩:=hL;have hOa:((wr.drew).alloc (.cells #[.int .i64 t.c,.int .i64 t.m.x,.int .i64 t.m.y,.int .i64 t.m.d,.int .i64 t.m.e] 54)).ownsRow lo 54 5 (.slice la i lc) i (aE ((List.range i).map kf)):=by
    have:=hQa.own
    rwa[hlen]at this
   have hnQ:¬(Value.slice la i lc).ownBlock=some Q:=fun q=>hQ.ap Q q rfl;have hQr:Q<wr.heap.size:=hQ.lt
   have hnew:=heap_alloc_new wr.drew (.cells #[.int .i64 t.c,.int .i64 t.m.x,.int .i64 t.m.y,.int .i64 t.m.d,.int .i64 t.m.e] 54);have HQa:=aA hQa
   have HFa:=aA ((HF.out.next bd).next ba);have HOA:=aA hOa
   have HNE:=aA hnew;have hlor:lo≤wr.heap.size:=jJ hlo hsr
   have cA:=hQa.cl;have zA:=hQa.fz.1
   have HCA:=aA cA;have HZA:=aA zA
   clear hQ hF hQa hOa hnew bd ba cA zA;go_wp2_with fail
   go_region_law (refine step_append_lies _ (by rfl) (.tmp 34) (.tmp 36) 35 (by rfl) lo 54 i0 _ 5 40 Tryz.underlying35 hi0 hz0 hz1 hz2 rfl (by omega) _ i (aE ((List.range i).map kf)) (by rfl) HOA.out ⟨wr.heap.size,0,none⟩ 1 1 (aE [t]) (by rfl) (by rw[aW];rfl) (by rw[dJ];exact World.news_of_block HNE.out) (dT _) (by omega) (by unfold maxLen;omega) (by omega) (by simp;omega) _ rfl ?_;intro g0 cap0 w9 hown hgrow hat hlt9;have c9:=(CS (b:=Q) (o:=z) hgrow (by simp;omega) hnQ).trans HCA.out;have z9:=(uI (b:=Q) (o:=z) hgrow (by simp;omega) hnQ).trans HZA.out)
   all_goals(
    clear c9 z9 l0 l1 l2 l3 l4 c0 z0;have HOWN:=aA hown
    have HGR:=aA hgrow;have HAT:=aA hat
    clear hown hgrow hat hlt9;go_wp2
    go_end0
    have hl':∀g,(Value.slice (some ⟨g0,0,none⟩) (i+1) cap0).ownBlock=some g→(Value.slice la i lc).ownBlock=some g∨g=wr.heap.size+1:=fun g hg=>by
     have e:g0=g:=by simpa[Value.ownBlock]using hg
     subst e;exact HAT.out.imp id (fun q=>by rw[q];simp)
    have ho:w9.ownsRow lo 54 5 (.slice (some ⟨g0,0,none⟩) (i+1) cap0) ((List.range (i+1)).map kf).length (aE ((List.range (i+1)).map kf)):=by have h:=HOWN.out;rw[←ht,←bG,←GT]at h;rw[show((List.range (i+1)).map kf).length=i+1 by simp];exact h
    refine⟨rfl,.slice (some ⟨g0,0,none⟩) (i+1) cap0,Bi,HQa.out.lead HGR.out rfl ho (fun g hg=>by simpa using hl' g hg),HB1.out,fun j j1 j2=>Nat.le_of_lt (HB2.out j j1 j2),fun g hg=>(hl' g hg).imp id (fun q=>by omega),?_⟩
    exact(HFa.out.grown HGR.out (fun g e hk=>.inr (.inl e))).set (fun _=>.inl rfl))
end Go.Proofs.YtmlaedpamobmhaaGreat
