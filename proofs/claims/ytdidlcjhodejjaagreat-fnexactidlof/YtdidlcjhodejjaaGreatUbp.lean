/-
  Pair by pair until none is left, or something is too much: (*impl.grbMaking).lookAtAll.
-/
import Derived.Test.YtdidlcjhodejjaaGreatUbo
import Derived.Test.YtdidlcjhodejjaaGreatUbj
import Derived.Laws.OwnMore
import Derived.Test.YtdidlcjhodejjaaGreatUbk
import Derived.Test.YtdidlcjhodejjaaGreatUbh
namespace Go.Proofs.YtdidlcjhodejjaaGreat
open Go.RowKit Go.Deep Go.Joins
set_option linter.unusedVariables false
def PopP (w:World) (lo Mb g:Nat) (o:Int) (f:Nat) (B:Bs) (j:Nat) (p:Option Addr) (u:World):Prop:=
 Fr (fun k=>lo≤k) w u∧((j<tri B.m∧∃ pb nx tvL tvP lv LS PS Bq,p=some ⟨pb,0,none⟩∧MW u lo Mb g o f B (j+1) tvL tvP lv LS PS Bq∧PrAt u pb (prQ (fun i=>ldL o (B.L i)) j) nx)∨(tri B.m≤j∧p=none∧∃ tvL tvP lv LS PS Bq,MW u lo Mb g o f B j tvL tvP lv LS PS Bq))
theorem popMI (w:World) (lo Mb g:Nat) (o:Int) (f:Nat) (B:Bs) (j:Nat) (tvL tvP lv:Value) (LS PS:List Value) (Bq:Nat→Nat) (h:MW w lo Mb g o f B j tvL tvP lv LS PS Bq) :
  Calls Tryz.prog 80 #[.pointer (some ⟨Mb,4,none⟩)] w fun r u=>∃ p,r=.returned (.pointer p)∧PopP w lo Mb g o f B j p u:=by
 by_cases hlt:j<tri B.m
 ·refine (popK w lo Mb 4 lv B.m _ Bq j (tri B.m) h.qu hlt).mono ?_
  rintro r u ⟨rfl,hq,hp,hf,hk⟩
  refine ⟨_,rfl,hf.mono (fun k _ e=>by rw [e];exact h.lo),.inl ⟨hlt,Bq j,_,tvL,tvP,lv,LS,PS,Bq,rfl,⟨h.bx.kx hk hq,hq,(h.bk.fr hf (fun b e=>.inr (.inl e))).yet (fun b _ q=>?_),by omega,h.m12,h.lo⟩,hp⟩⟩
  rcases q with q | q | q | ⟨i,i1,i2,q⟩
  ·exact .inl q
  ·exact .inr (.inl q)
  ·exact .inr (.inr (.inl q))
  ·exact .inr (.inr (.inr ⟨i,by omega,i2,q⟩))
 ·refine (popI_none w lo Mb 4 lv B.m _ Bq j (tri B.m) h.qu hlt).mono ?_
  rintro r u ⟨rfl,rfl⟩
  exact ⟨_,rfl,Fr.refl _ _,.inr ⟨by omega,rfl,tvL,tvP,lv,LS,PS,Bq,h⟩⟩
theorem pr_ne {w:World} {pb Mb:Nat} {p:Pr} {nx:Option Addr} {tvL tvP:Value} {o:Int} {f:Nat} (h:PrAt w pb p nx) (hx:Mx w Mb tvL tvP o f):¬ pb=Mb:=fun e=>by
 have h1:=h.a2
 have h2:=hx.c2
 rw [e,h2] at h1
 cases h1
def AllP (w:World) (lo Mb g:Nat) (o:Int) (G:Bs × Bool) (r:Ending) (w':World):Prop:=
 Fr (fun k=>lo≤k) w w'∧((G.2=true∧r=.returned (.tuple #[]))∨(G.2=false∧r=.panicked [{ v:=tooMuch,recovered:=false }]))∧∃ f a tvL tvP lv LS PS Bq,MW w' lo Mb g o f G.1 a tvL tvP lv LS PS Bq
theorem allP_of {w w':World} {lo Mb g:Nat} {o:Int} {G:Bs × Bool} {r:Ending} {B:Bs} {d:Bool} (hG:G=(B,d)) (hf:Fr (fun k=>lo≤k) w w') (hr:(d=true∧r=.returned (.tuple #[]))∨(d=false∧r=.panicked [{ v:=tooMuch,recovered:=false }])) {f a:Nat} {tvL tvP lv:Value} {LS PS:List Value} {Bq:Nat→Nat} (hm:MW w' lo Mb g o f B a tvL tvP lv LS PS Bq):AllP w lo Mb g o G r w':=by
 subst hG
 exact ⟨hf,hr,f,a,tvL,tvP,lv,LS,PS,Bq,hm⟩
set_option maxRecDepth 100000 in
set_option maxHeartbeats 8000000 in
theorem lookAtAllI (w:World) (lo Mb g:Nat) (o:Int) (f0:Nat) (hf60:f0≤60) (B0:Bs) (tvL tvP lv:Value) (LS PS:List Value) (Bq:Nat→Nat) (h:MW w lo Mb g o f0 B0 0 tvL tvP lv LS PS Bq) (hB:BsOk o g B0) (hg:g≤12) {G:Bs × Bool} (hG:grun o g f0 B0 0=G) :
  Calls Tryz.prog 99 #[.pointer (some ⟨Mb,0,none⟩)] w (AllP w lo Mb g o G):=by
 have HH:=Hid.mk' h
 have HB:=Hid.mk' hB
 have HG:=Hid.mk' hG
 clear h hB hG
 go_enter Tryz.func99,Tryz.ntmps99
 go_wp2_with fail
 refine (popMI w lo Mb g o f0 B0 0 _ _ _ _ _ _ HH.out).mono ?_
 rintro r w1 ⟨p1,rfl,hp1⟩
 have HP1:=Hid.mk' hp1
 clear hp1
 go_wp2
 go_loopg [2] f0 (fun gk pv wr=>∃ (B:Bs) (j:Nat) (p:Option Addr) (wb:World),gk≤60∧pv=.pointer p∧BsOk o g B∧grun o g gk B j=G∧Fr (fun k=>lo≤k) w wb∧PopP wb lo Mb g o gk B j p wr)
 case atStart=>exact ⟨B0,0,p1,w,hf60,rfl,HB.out,HG.out,Fr.refl _ _,HP1.out⟩
 case round=>
  obtain ⟨B,j,p,wb,hgk,rfl,hBo,hgr,hFb,hF1,hcase⟩:=hrel
  have hF:=hFb.trans hF1
  have HF:=Hid.mk' hF
  have HGR:=Hid.mk' hgr
  have HBo:=Hid.mk' hBo
  rcases hcase with ⟨hlt,pb,nx,tvL1,tvP1,lv1,LS1,PS1,Bq1,rfl,hM,hpr⟩ | ⟨hge,rfl,tvL1,tvP1,lv1,LS1,PS1,Bq1,hM⟩
  ·have HM:=Hid.mk' hM
   have HPR:=Hid.mk' hpr
   have c7:=hM.bx.c7
   have z7:=hM.bx.fz 7
   clear hF hFb hF1 hgr hBo hM hpr
   rcases gk with _ | gk
   ·have HGE:=Hid.mk' (HGR.out.symm.trans (grun_out hlt))
    go_wp2
    refine ⟨rfl,?_⟩
    exact allP_of HGE.out HF.out (.inr ⟨rfl,rfl⟩) HM.out
   have hf1:(((gk+1:Nat):Int) == 0)=false:=by simp;omega
   have hfw:IntKind.i64.wrap (((gk+1:Nat):Int) - 1)=(gk:Int):=by rw [IntKind.wrap_i64];omega
   have hfw2:((gk+1:Nat):Int) - 1=(gk:Int):=by omega
   have hM2:MW (wr.setCell ⟨Mb,7,none⟩ (.int .i64 (gk:Int))) lo Mb g o gk B (j+1) tvL1 tvP1 lv1 LS1 PS1 Bq1:=⟨HM.out.bx.set7 gk,HM.out.qu.put (by decide) _,HM.out.bk.fr ((Fr.refl (QY lo Mb lv1 Bq1 (j+1) (tri B.m)) wr).set (fun _=>.inr (.inl rfl))) (fun b q=>q),HM.out.le,HM.out.m12,HM.out.lo⟩
   have HM2:=Hid.mk' hM2
   have hF2:Fr (fun k=>lo≤k) w (wr.setCell ⟨Mb,7,none⟩ (.int .i64 (gk:Int))):=HF.out.set (fun _=>HM.out.lo)
   have HF2:=Hid.mk' hF2
   have HPR2:Hid (PrAt (wr.setCell ⟨Mb,7,none⟩ (.int .i64 (gk:Int))) pb (prQ (fun i=>ldL o (B.L i)) j) nx):=HPR.out.fr ((Fr.refl (fun k=>k=Mb) wr).set (fun _=>rfl)) (pr_ne HPR.out HM.out.bx)
   obtain ⟨E,hE⟩:∃ E,stepB o g B (pq j).1 (pq j).2=E:=⟨_,rfl⟩
   have hcl:=lookAtI (wr.setCell ⟨Mb,7,none⟩ (.int .i64 (gk:Int))) lo Mb g o gk B j _ _ _ _ _ _ HM2.out HBo.out hg hlt pb nx HPR2.out
   rw [hE] at hcl
   have HCL:=Hid.mk' hcl
   have HE:=Hid.mk' hE
   clear hM2 hF2 hcl hE
   go_wp2_with fail
   refine HCL.out.mono ?_
   rintro r w3 ⟨hF3,hc3⟩
   have HF3:=Hid.mk' (HF2.out.trans hF3)
   clear c7 z7 hF3 HCL
   rcases hc3 with ⟨tvL3,tvP3,lv3,LS3,PS3,Bq3,rfl,rfl,hM3⟩ | ⟨B3,tvL3,tvP3,lv3,LS3,PS3,Bq3,rfl,rfl,hM3⟩
   ·have hGE:G=(B,false):=HGR.out.symm.trans (by rw [grun,if_pos hlt];simp only [HE.out])
    have HM3:=Hid.mk' hM3
    clear hM3
    refine ⟨rfl,?_⟩
    exact allP_of hGE HF3.out (.inr ⟨rfl,rfl⟩) HM3.out
   ·have hGE:grun o g gk B3 (j+1)=G:=by
     rw [← HGR.out,grun,if_pos hlt]
     simp only [HE.out]
    obtain ⟨h1,h2⟩:=pq_lt hlt
    have hB3:=stepB_ok HBo.out (by omega) h2 HE.out
    have HGE:=Hid.mk' hGE
    have HB3:=Hid.mk' hB3
    have HM3:=Hid.mk' hM3
    clear hGE hB3 hM3
    go_wp2_with fail
    refine (popMI w3 lo Mb g o gk B3 (j+1) _ _ _ _ _ _ HM3.out).mono ?_
    rintro r w4 ⟨p4,rfl,hp4⟩
    have HP4:=Hid.mk' hp4
    clear hp4
    go_wp2
    go_roundg gk
    case measure=>omega
    case rel=>exact ⟨B3,j+1,p4,w3,by omega,rfl,HB3.out,HGE.out,HF3.out,HP4.out⟩
  ·have HGE:=Hid.mk' (HGR.out.symm.trans (grun_stop (o:=o) (g:=g) (f:=gk) hge))
   have HM:=Hid.mk' hM
   clear hF hFb hF1 hgr hBo hM
   go_wp2
   go_end0
   exact allP_of HGE.out HF.out (.inl ⟨rfl,rfl⟩) HM.out
end Go.Proofs.YtdidlcjhodejjaaGreat
namespace Go.Proofs.YtdidlcjhodejjaaGreat
open Go.RowKit Go.Deep Go.Joins
set_option linter.unusedVariables false
theorem row_one {w w2:World} {n j:Nat} {va:Option Addr} {vc:Nat} (hj:j<n) (hn:n≤3) (hc:∀ i,i<n→w2.cell? ⟨w.heap.size,i,none⟩=some (.slice none 0 0)) (hb:w.heap.size<w2.heap.size) (hv:Out (w.heap.size+1) w2 va vc [⟨1,⟨0,0,0,0⟩⟩]) :
  RSo (fun b=>w.heap.size≤b) (w2.setCell ⟨w.heap.size,j,none⟩ (.slice va 1 vc)) (some ⟨w.heap.size,0,none⟩) n n (fun i=>if i=j then va else none) (fun i=>if i=j then vc else 0) (oneP j):=by
 have fs:Fr (fun b=>b=w.heap.size) w2 (w2.setCell ⟨w.heap.size,j,none⟩ (.slice va 1 vc)):=(Fr.refl _ w2).set (fun _=>rfl)
 refine ⟨⟨Nat.le_refl _,by omega,.inr ⟨w.heap.size,0,rfl,by rw [World.size_setCell];exact hb,fun i hi=>?_⟩,fun i hi=>?_⟩,.inr (fun b off e=>by cases e;exact Nat.le_refl _),fun i hi=>?_⟩
 ·rw [Nat.zero_add]
  show _=some (Value.slice (if i=j then va else none) (oneP j i).length (if i=j then vc else 0))
  unfold oneP
  by_cases e:i=j
  ·subst e
   rw [if_pos rfl,if_pos rfl,if_pos rfl]
   exact sc_same (hc i hi)
  ·rw [if_neg e,if_neg e,if_neg e,sc_other (neQ (fun q=>e q.symm))]
   exact hc i hi
 ·show Rd _ (if i=j then va else none) (oneP j i).length (if i=j then vc else 0) (lf (oneP j i))
  unfold oneP
  by_cases e:i=j
  ·rw [if_pos e,if_pos e,if_pos e]
   exact fs.rd hv.1 (hv.2.2.imp id (fun ⟨g,off,e1,hg⟩ b off' e2 q=>by rw [e1] at e2;cases e2;omega))
  ·rw [if_neg e,if_neg e,if_neg e]
   exact ⟨Nat.le_refl _,by simp,.inl rfl⟩
 ·unfold oneP
  by_cases e:i=j
  ·rw [if_pos e]
   refine .inr fun b off e2=>?_
   have e2:(if i=j then va else none)=some ⟨b,off,none⟩:=e2
   rw [if_pos e] at e2
   show w.heap.size≤b
   rcases hv.2.2 with h0 | ⟨g,off',e1,hg⟩
   ·simp at h0
   ·rw [e1] at e2;cases e2;omega
  ·rw [if_neg e];exact .inl rfl
theorem made_row {w w1:World} {n:Nat} {v:Value} (hn:n≤3) (hz:v=.slice none 0 0) (h:w1.ownsRow w.heap.size 45 1 (.slice (some ⟨w.heap.size,0,none⟩) n n) n (madeCells v.cells (n * 1)).toList):(∀ i,i<n→w1.cell? ⟨w.heap.size,i,none⟩=some (.slice none 0 0))∧(∀ j,w1.frozen? ⟨w.heap.size,j,none⟩=false):=by
 subst hz
 refine ⟨fun i hi=>?_,fun j=>?_⟩
 ·rw [h.cellAt i (by omega)]
  show ((Array.range (n * 1)).map (fun x=>(#[Value.slice none 0 0]:Array Value)[x % 1]!)).toList[i]? = _
  have h1:i<n * 1:=by omega
  simp [Nat.mod_one,hi]
 ·rcases h.2 with ⟨hv,h0⟩ | ⟨b,cap,cur,hv,hlo,hg,_⟩
  ·cases hv
  ·have e:w.heap.size=b:=by
    injection hv with e1
    injection e1 with e2
    injection e2
   subst e
   unfold World.frozen?
   simp [hg]
theorem polOf_one:polOf 1 ⟨0,0,0,0⟩=[⟨1,⟨0,0,0,0⟩⟩]:=rfl
set_option maxRecDepth 100000 in
set_option maxHeartbeats 8000000 in
theorem addGivenI (w:World) (Mb:Nat) (o:Int) (f:Nat) (ho:1≤o∧o≤3) (a:Option Addr) (n cap:Nat) (ad:Nat→Option Addr) (cp:Nat→Nat) (L:Nat→List T) (h:RdS w a n cap ad (lN L) cp (fN L)) (hl:lstOk n (lN L) (fN L)=true) (hn:1≤n∧n≤3) (lo:Nat) (hlo:∀ b off,a=some ⟨b,off,none⟩→b<lo) (hel:∀ i,i<n→∀ b off,ad i=some ⟨b,off,none⟩→b<lo) (tvL tvP lv:Value) (LS PS:List Value) (Bq:Nat→Nat) (hM:MW w lo Mb n o f ⟨0,L,fun k=>oneP k⟩ 0 tvL tvP lv LS PS Bq) (hlw:lo≤w.heap.size) :
  Calls Tryz.prog 98 #[.pointer (some ⟨Mb,0,none⟩),.slice a n cap] w fun e w'=>e=.returned (.tuple #[])∧∃ tvL' tvP' lv' LS' PS' Bq',MW w' lo Mb n o f (grb0 n L) 0 tvL' tvP' lv' LS' PS' Bq'∧Fr (fun k=>lo≤k) w w':=by
 obtain ⟨lb,off,rfl,hlb,hcl⟩:=h.2.2.1.resolve_left (by omega)
 have HH:=Hid.mk' h
 have HC:=Hid.mk' hcl
 have HM:=Hid.mk' hM
 have HLA:=Hid.mk' (lstOk_all hl).2
 have hn3:(n:Int)≤3:=by omega
 obtain ⟨i0,hi0,hz0,hz1,hz2⟩:=info_parts infoSL
 clear h hcl hM hl
 go_enter Tryz.func98,Tryz.ntmps98
 go_wp2
 go_loopw [9] (fun v wr=>∃ (j:Nat) (tvL tvP lv:Value) (LS PS:List Value) (Bq:Nat→Nat),j≤n∧v=.int .i64 (j:Int)∧MW wr lo Mb n o f ⟨j,L,fun k=>oneP k⟩ 0 tvL tvP lv LS PS Bq∧Fr (fun k=>lo≤k) w wr) (fun v _=>n - (intOf v).toNat)
 case atStart=>exact ⟨0,_,_,_,_,_,_,Nat.zero_le _,rfl,HM.out,Fr.refl _ _⟩
 case round=>
  obtain ⟨j,tvL,tvP,lv,LS,PS,Bq,hj,rfl,hMj,hFj⟩:=hrel
  have HMj:=Hid.mk' hMj
  have HFj:=Hid.mk' hFj
  by_cases hlt:j<n
  ·have hjl:(j:Int)<(n:Int):=by omega
   have hlb2:¬ lo≤lb:=by have:=hlo lb off rfl;omega
   have d0:wr.cell? ⟨lb,off+j,none⟩=some (.slice (ad j) (L j).length (cp j)):=(hFj.cell hlb hlb2).trans (HC.out j hlt)
   clear hMj hFj
   have hrl:RL wr (ad j) (cp j) (L j):=HFj.out.rd (HH.out.2.2.2 j hlt) (.inr fun b off' e q=>by have:=hel j hlt b off' e;omega)
   have HRL:=Hid.mk' hrl
   have okj:=(HLA.out j hlt).2
   have ne0:=(HLA.out j hlt).1
   have HOK:Hid (okL (L j)=true):=okj
   have HNE:Hid ((L j).length≠0):=ne0
   obtain ⟨w1,hrun,hown1,hgr1⟩:=run_make_full (P:=Tryz.prog) wr wr.heap.size 24 45 i0 _ 1 Tryz.underlying24 hi0 hz0 hz1 .i64 .i64 n (by rw [hz2];omega) (by unfold maxLen;omega) (Nat.le_refl _)
   have hsw1:wr.heap.size<w1.heap.size:=(hown1.lt wr.heap.size rfl).2
   have b1:Below wr.heap.size wr w1:=⟨hgr1.os,hgr1.tape,hgr1.output,hgr1.size,fun k hk=>hgr1.block k hk (by simp)⟩
   have HB1:=Hid.mk' b1
   have HRC:=Hid.mk' (made_row (by omega) rfl hown1)
   have hlow:lo≤wr.heap.size:=Nat.le_trans hlw HFj.out.size
   clear hrl okj ne0 b1 hown1 hgr1
   go_wp2_with fail
   refine (polOfI 1 0 0 0 0 _).mono ?_
   rw [polOf_one]
   rintro e w2 ⟨v,rfl,b2,hv⟩
   obtain ⟨va,vc,rfl,hvo⟩:=out_of_owns hv (by simp)
   have hb2:=bel_next HB1.out b2
   have hw2:wr.heap.size<w2.heap.size:=by have:=b2.size;omega
   have hc2:∀ i,i<n→w2.cell? ⟨wr.heap.size,i,none⟩=some (.slice none 0 0):=fun i hi=>(b2.cell (p:=⟨wr.heap.size,i,none⟩) hsw1).trans (HRC.out.1 i hi)
   have cj:=hc2 j hlt
   have zj:w2.frozen? ⟨wr.heap.size,j,none⟩=false:=(b2.frozen (p:=⟨wr.heap.size,j,none⟩) hsw1).trans (HRC.out.2 j)
   have hvo':Out (wr.heap.size+1) w2 va vc [⟨1,⟨0,0,0,0⟩⟩]:=hvo.low (by omega)
   have HROW:=Hid.mk' (row_one hlt (by omega) hc2 hw2 hvo')
   have HB3:Hid (Below wr.heap.size wr (w2.setCell ⟨wr.heap.size,j,none⟩ (.slice va 1 vc))):=hb2.setCell (Nat.le_refl _) _
   clear b2 hv hvo hvo' hb2 hc2 HRC HB1 hrun
   go_wp2_with fail
   clear cj zj
   generalize (w2.setCell ⟨wr.heap.size,j,none⟩ (.slice va 1 vc))=w3 at HROW HB3 ⊢
   refine (cloneI w3 (ad j) (cp j) (L j) (HRL.out.below HB3.out) HNE.out (okL_falls HOK.out).1).mono ?_
   rintro e w4 ⟨ca,cc,rfl,b4,hco⟩
   have hb4:=bel_next HB3.out b4
   have HM4:=Hid.mk' (HMj.out.below hb4)
   have hs3:wr.heap.size≤w3.heap.size:=HB3.out.size
   have far:∀ b,wr.heap.size≤b→NB (QY lo Mb lv Bq 0 (tri j)) tvL tvP b:=fun b hb=>NB.far (m:=wr.heap.size) (fun k e=>(HMj.out.bk.rL.lt k e).2) (fun k e=>(HMj.out.bk.rP.lt k e).2) (fun k q=>HMj.out.ylt q) hb
   have HR4:Hid (RLo (NB (QY lo Mb lv Bq 0 (tri j)) tvL tvP) w4 ca cc (L j)):=⟨hco.1,hco.2.2.imp id (fun ⟨g,off',e,hg⟩ b o2 e2=>by rw [e] at e2;cases e2;exact far _ (by omega))⟩
   have HRS4:Hid (RSo (NB (QY lo Mb lv Bq 0 (tri j)) tvL tvP) w4 (some ⟨wr.heap.size,0,none⟩) n n (fun i=>if i=j then va else none) (fun i=>if i=j then vc else 0) (oneP j)):=(HROW.out.fr (P:=fun _=>False) (Fr.of_below b4) (fun _ _ q=>q)).mono (fun b _ hb=>far b hb)
   have HF4:Hid (Fr (fun k=>lo≤k) w w4):=HFj.out.trans (Fr.of_below hb4)
   have HAD:=Hid.mk' (addMI w4 lo Mb n o f ⟨j,L,fun k=>oneP k⟩ 0 tvL tvP lv LS PS Bq HM4.out ho (by show j≤11;omega) ca cc (L j) HR4.out HOK.out HNE.out _ n _ _ (oneP j) HRS4.out)
   clear b4 hco hb4 far HROW HB3 HR4 HRS4 HM4
   go_wp2_with fail
   refine HAD.out.mono ?_
   rintro e w5 ⟨rfl,tvL5,tvP5,lv5,LS5,PS5,Bq5,hM5,hF5⟩
   have eB:addB ⟨j,L,fun k=>oneP k⟩ (L j) (oneP j)=⟨j+1,L,fun k=>oneP k⟩:=by
    unfold addB
    rw [updL_self,updP_one]
   rw [eB] at hM5
   have HM5:=Hid.mk' hM5
   have HF5:=Hid.mk' (HF4.out.trans hF5)
   clear hM5 hF5 eB
   go_wp2
   go_roundw
   case rel=>exact ⟨j+1,_,_,_,_,_,_,by omega,by go_num,HM5.out,HF5.out⟩
   case measure=>simp [intOf];omega
  ·have hjn:¬ (j:Int)<(n:Int):=by omega
   have hje:j=n:=by omega
   subst hje
   clear hMj hFj
   go_wp2
   go_end0
   exact ⟨rfl,⟨_,_,_,_,_,_,HMj.out⟩,HFj.out⟩
end Go.Proofs.YtdidlcjhodejjaaGreat
namespace Go.Proofs.YtdidlcjhodejjaaGreat
open Go.RowKit Go.Deep Go.Joins
set_option linter.unusedVariables false
set_option maxRecDepth 100000 in
set_option maxHeartbeats 2000000 in
theorem redEnds_yesM (g:Nat) (bd:Array Value) (w:World) (Q:World→Prop) (eg:∀ args w,(callFunc g args).run Tryz.prog w=.ok (.enter g args) w) (h:Calls Tryz.prog g bd w fun r w'=>r=.returned (.tuple #[])∧Q w') :
  Calls Tryz.prog 78 #[.func (.func g) bd #[]] w fun r w'=>r=.returned (.bool true)∧∃ w1,Q w1∧w'=w1.alloc (.cells #[] 149):=by
 have HC:=Hid.mk' h
 clear h
 go_enter_defers Tryz.func78,Tryz.ntmps78
 go_wp2_with fail
 refine HC.out.mono ?_
 rintro r w1 ⟨rfl,hq⟩
 have HQ:=Hid.mk' hq
 clear hq HC
 go_wp2
 refine leaves_cons (f:=123) (args:=#[]) (by simp) (by simp [go_sem]) ?_
 refine (ends1_idle _).mono ?_
 rintro e u' w'' ⟨rfl,rfl,rfl⟩
 simp [Leaves,settle,results,Tryz.results78,go_sem]
 exact ⟨w1,HQ.out,rfl⟩
set_option maxRecDepth 100000 in
set_option maxHeartbeats 2000000 in
theorem redEnds_noM (g:Nat) (bd:Array Value) (w:World) (Q:World→Prop) (eg:∀ args w,(callFunc g args).run Tryz.prog w=.ok (.enter g args) w) (h:Calls Tryz.prog g bd w fun r w'=>r=.panicked [{ v:=tooMuch,recovered:=false }]∧Q w') :
  Calls Tryz.prog 78 #[.func (.func g) bd #[]] w fun r w'=>r=.returned (.bool false)∧∃ w1,Q w1∧w'=w1.alloc (.cells #[] 149):=by
 have HC:=Hid.mk' h
 clear h
 go_enter_defers Tryz.func78,Tryz.ntmps78
 go_wp2_with fail
 refine HC.out.mono ?_
 rintro r w1 ⟨rfl,hq⟩
 have HQ:=Hid.mk' hq
 clear hq HC
 go_wp2
 refine leaves_cons (f:=123) (args:=#[]) (by simp) (by simp [go_sem]) ?_
 refine (ends1_caught _).mono ?_
 rintro e u' w'' ⟨rfl,rfl,rfl⟩
 simp [Leaves,settle,results,Tryz.results78,go_sem]
 exact ⟨w1,HQ.out,rfl⟩
theorem own_low {w:World} {lo lo':Nat} {e:TypeId} {size:Nat} {v:Value} {n:Nat} {xs:List Value} (h:w.ownsRow lo e size v n xs) (hl:lo'≤lo):w.ownsRow lo' e size v n xs:=⟨h.1,h.2.imp id (fun ⟨g,cap,cur,e1,e2,r⟩=>⟨g,cap,cur,e1,Nat.le_trans hl e2,r⟩)⟩
theorem BsW.low {Y:Nat→Prop} {w:World} {lo lo':Nat} {tvL tvP:Value} {g nL:Nat} {L:Nat→List T} {nP:Nat} {Q:Nat→Nat→List T} {LS PS:List Value} (h:BsW Y w lo tvL tvP g nL L nP Q LS PS) (hl:lo'≤lo):BsW Y w lo' tvL tvP g nL L nP Q LS PS:=⟨own_low h.rL hl,own_low h.rP hl,h.eL,h.eP,h.nL,h.nP⟩
theorem mw_new (w:World) (lo n:Nat) (o:Int) (f:Nat) (L:Nat→List T) (hlo:lo≤w.heap.size):MW (w.alloc (.cells #[.slice none 0 0,.slice none 0 0,.bool false,.int .i64 o,.slice none 0 0,.pointer none,.pointer none,.int .i64 (f:Int)] 120)) lo w.heap.size n o f ⟨0,L,fun k=>oneP k⟩ 0 (.slice none 0 0) (.slice none 0 0) (.slice none 0 0) [] [] (fun _=>0):=by
 have c:∀ i,(w.alloc (.cells #[.slice none 0 0,.slice none 0 0,.bool false,.int .i64 o,.slice none 0 0,.pointer none,.pointer none,.int .i64 (f:Int)] 120)).cell? ⟨w.heap.size,i,none⟩=#[Value.slice none 0 0,.slice none 0 0,.bool false,.int .i64 o,.slice none 0 0,.pointer none,.pointer none,.int .i64 (f:Int)][i]?:=fun i=>World.cell?_alloc_at _ _ _ _ rfl
 have z:∀ j,(w.alloc (.cells #[.slice none 0 0,.slice none 0 0,.bool false,.int .i64 o,.slice none 0 0,.pointer none,.pointer none,.int .i64 (f:Int)] 120)).frozen? ⟨w.heap.size,j,none⟩=false:=fun j=>by rw [World.frozen?_alloc_at _ _ _ _ rfl]
 exact ⟨⟨c 0,c 1,c 2,c 3,c 7,z⟩,⟨c 4,c 5,⟨_,c 6,fun q=>absurd q (Nat.lt_irrefl _)⟩,⟨z 4,z 5,z 6⟩,⟨rfl,.inl ⟨rfl,rfl⟩⟩,fun g hg=>by simp [Value.ownBlock] at hg,fun j j1 j2=>absurd j2 (Nat.not_lt_zero _),fun j j1 j2=>absurd j2 (Nat.not_lt_zero _),fun i j _ _ j2=>absurd j2 (Nat.not_lt_zero _),hlo⟩,BsW.none _ _ _ _ _ _,Nat.le_refl _,Nat.zero_le _,hlo⟩
set_option maxRecDepth 100000 in
set_option maxHeartbeats 8000000 in
theorem grbMakeI_bad (w:World) (o:Int) (a:Option Addr) (n cap:Nat) (ad:Nat→Option Addr) (cp:Nat→Nat) (L:Nat→List T) (h:RdS w a n cap ad (lN L) cp (fN L)) (fuel:Int) (hbad:¬ ((1≤o∧o≤3)∧lstOk n (lN L) (fN L)=true∧(1≤n∧n≤3)∧(0≤fuel∧fuel≤60))) :
  Calls Tryz.prog 55 #[.int .i64 o,.slice a n cap,.int .i64 fuel] w (MakeP w n (⟨0,fun _=>[],fun _ _=>[]⟩,false)):=by
 have q1:(n:Int)≤140737488351232:=by have:=h.2.1;omega
 have HH:=Hid.mk' (h.below (bel_one w (.cells #[.slice none 0 0,.slice none 0 0,.bool false] 77)))
 have HX0:=Hid.mk' (Own3.box w 77 (.slice none 0 0) (.slice none 0 0) (.bool false))
 clear h
 by_cases ho:1≤o∧o≤3
 rotate_left
 ·have ho':o<1∨3<o:=by omega
  clear hbad
  go_enter Tryz.func55,Tryz.ntmps55
  go_wp2_with fail
  refine (redLeadsI_out _ _ _ _ _ ho').mono ?_
  rintro r w2 ⟨rfl,hb2⟩
  have HB2:=Hid.mk' (bel_next (bel_one w (.cells #[.slice none 0 0,.slice none 0 0,.bool false] 77)) hb2)
  obtain ⟨⟨x0,x1,x2⟩,xz⟩:=HX0.out.below hb2
  clear hb2
  go_wp2
  refine bodyPost_ret (v:=.agg #[.slice none 0 0,.slice none 0 0,.bool false]) (by simp [results,Tryz.results55,go_sem, *]) rfl ?_
  exact ⟨_,_,[],[],rfl,bel_s3 HB2.out (Nat.le_refl _) _ _ _,BsW.none _ _ _ _ _ _⟩
 obtain ⟨o1,o2⟩:=ho
 cases hl:lstOk n (lN L) (fN L)
 ·clear hbad
  go_enter Tryz.func55,Tryz.ntmps55
  go_wp2_with fail
  refine (redLeadsI_no _ _ _ _ _ _ _ _ _ HH.out o1 o2 hl).mono ?_
  rintro r w2 ⟨rfl,hb2⟩
  have HB2:=Hid.mk' (bel_next (bel_one w (.cells #[.slice none 0 0,.slice none 0 0,.bool false] 77)) hb2)
  obtain ⟨⟨x0,x1,x2⟩,xz⟩:=HX0.out.below hb2
  clear hb2
  go_wp2
  refine bodyPost_ret (v:=.agg #[.slice none 0 0,.slice none 0 0,.bool false]) (by simp [results,Tryz.results55,go_sem, *]) rfl ?_
  exact ⟨_,_,[],[],rfl,bel_s3 HB2.out (Nat.le_refl _) _ _ _,BsW.none _ _ _ _ _ _⟩
 have hrest:n=0∨(n≠0∧3<n)∨((n≠0∧n≤3)∧fuel<0)∨((n≠0∧n≤3)∧0≤fuel∧60<fuel):=by
  by_cases h1:n=0
  ·exact .inl h1
  ·by_cases h2:3<n
   ·exact .inr (.inl ⟨h1,h2⟩)
   ·by_cases h3:fuel<0
    ·exact .inr (.inr (.inl ⟨⟨h1,by omega⟩,h3⟩))
    ·by_cases h4:60<fuel
     ·exact .inr (.inr (.inr ⟨⟨h1,by omega⟩,by omega,h4⟩))
     ·exact absurd ⟨⟨o1,o2⟩,hl,⟨by omega,by omega⟩,by omega,by omega⟩ hbad
 have n12:=(lstOk_all hl).1
 clear hbad
 go_enter Tryz.func55,Tryz.ntmps55
 go_wp2_with fail
 refine (redLeadsI _ _ _ _ _ _ _ _ _ HH.out o1 o2 hl).mono ?_
 rintro r w2 ⟨v,rfl,hb2,_⟩
 have HB2:=Hid.mk' (bel_next (bel_one w (.cells #[.slice none 0 0,.slice none 0 0,.bool false] 77)) hb2)
 obtain ⟨⟨x0,x1,x2⟩,xz⟩:=HX0.out.below hb2
 clear hb2
 rcases hrest with h1 | ⟨h1,h2⟩ | ⟨⟨h1,h2⟩,h3⟩ | ⟨⟨h1,h2⟩,h3,h4⟩
 ·have e1:((n:Int) == 0)=true:=by rw [h1];rfl
  clear h1
  go_wp2
  refine bodyPost_ret (v:=.agg #[.slice none 0 0,.slice none 0 0,.bool false]) (by simp [results,Tryz.results55,go_sem, *]) rfl ?_
  exact ⟨_,_,[],[],rfl,bel_s3 HB2.out (Nat.le_refl _) _ _ _,BsW.none _ _ _ _ _ _⟩
 ·have e1:((n:Int) == 0)=false:=beq_eq_false_iff_ne.2 (by omega)
  have e2:(3:Int)<(n:Int):=by omega
  clear h1 h2
  go_wp2
  refine bodyPost_ret (v:=.agg #[.slice none 0 0,.slice none 0 0,.bool false]) (by simp [results,Tryz.results55,go_sem, *]) rfl ?_
  exact ⟨_,_,[],[],rfl,bel_s3 HB2.out (Nat.le_refl _) _ _ _,BsW.none _ _ _ _ _ _⟩
 ·have e1:((n:Int) == 0)=false:=beq_eq_false_iff_ne.2 (by omega)
  have e2:¬ (3:Int)<(n:Int):=by omega
  clear h1 h2
  go_wp2
  refine bodyPost_ret (v:=.agg #[.slice none 0 0,.slice none 0 0,.bool false]) (by simp [results,Tryz.results55,go_sem, *]) rfl ?_
  exact ⟨_,_,[],[],rfl,bel_s3 HB2.out (Nat.le_refl _) _ _ _,BsW.none _ _ _ _ _ _⟩
 ·have e1:((n:Int) == 0)=false:=beq_eq_false_iff_ne.2 (by omega)
  have e2:¬ (3:Int)<(n:Int):=by omega
  have e3:¬ fuel<0:=by omega
  clear h1 h2
  go_wp2
  refine bodyPost_ret (v:=.agg #[.slice none 0 0,.slice none 0 0,.bool false]) (by simp [results,Tryz.results55,go_sem, *]) rfl ?_
  exact ⟨_,_,[],[],rfl,bel_s3 HB2.out (Nat.le_refl _) _ _ _,BsW.none _ _ _ _ _ _⟩
set_option maxRecDepth 100000 in
set_option maxHeartbeats 8000000 in
theorem grbMakeI_ok (w:World) (o:Int) (a:Option Addr) (n cap:Nat) (ad:Nat→Option Addr) (cp:Nat→Nat) (L:Nat→List T) (h:RdS w a n cap ad (lN L) cp (fN L)) (fu:Nat) (ho:1≤o∧o≤3) (hl:lstOk n (lN L) (fN L)=true) (hn:1≤n∧n≤3) (hf:fu≤60) {G:Bs × Bool} (hG:grun o n fu (grb0 n L) 0=G) :
  Calls Tryz.prog 55 #[.int .i64 o,.slice a n cap,.int .i64 (fu:Int)] w (MakeP w n G):=by
 have bx:=bel_one w (.cells #[.slice none 0 0,.slice none 0 0,.bool false] 77)
 have HH:=Hid.mk' (h.below bx)
 have HX0:=Hid.mk' (Own3.box w 77 (.slice none 0 0) (.slice none 0 0) (.bool false))
 have HG:=Hid.mk' hG
 have HL:=Hid.mk' hl
 have HBX:=Hid.mk' bx
 have hlo0:∀ b off,a=some ⟨b,off,none⟩→b<w.heap.size+1:=fun b off e=>by
  rcases h.2.2.1 with h0 | ⟨b',off',e',hlt,_⟩
  ·omega
  ·rw [e'] at e;cases e;omega
 have hel0:∀ i,i<n→∀ b off,ad i=some ⟨b,off,none⟩→b<w.heap.size+1:=fun i hi b off e=>by
  rcases (h.2.2.2 i hi).2.2 with h0 | ⟨b',off',e',hlt,_⟩
  ·exact absurd h0 ((lstOk_all hl).2 i hi).1
  ·rw [e'] at e;cases e;omega
 have HLO:=Hid.mk' hlo0
 have HEL:=Hid.mk' hel0
 obtain ⟨o1,o2⟩:=ho
 have e1:((n:Int) == 0)=false:=beq_eq_false_iff_ne.2 (by omega)
 have e2:¬ (3:Int)<(n:Int):=by omega
 have e3:¬ (fu:Int)<0:=by omega
 have e4:¬ (60:Int)<(fu:Int):=by omega
 have n12:=(lstOk_all hl).1
 clear h hG bx hlo0 hel0
 go_enter Tryz.func55,Tryz.ntmps55
 go_wp2_with fail
 refine (redLeadsI _ _ _ _ _ _ _ _ _ HH.out o1 o2 hl).mono ?_
 rintro r w2 ⟨v,rfl,hb2,_⟩
 have hb02:=bel_next HBX.out hb2
 have HB2:=Hid.mk' hb02
 have HX2:=Hid.mk' (HX0.out.below hb2)
 have HH2:=Hid.mk' (HH.out.below hb2)
 have hs2:w.heap.size+1≤w2.heap.size:=HX2.out.lt
 have HM3:=Hid.mk' (mw_new w2 (w.heap.size+1) n o fu L hs2)
 have bm:=bel_one w2 (.cells #[.slice none 0 0,.slice none 0 0,.bool false,.int .i64 o,.slice none 0 0,.pointer none,.pointer none,.int .i64 (fu:Int)] 120)
 have HBM:=Hid.mk' bm
 have HAG:=Hid.mk' (addGivenI (w2.alloc (.cells #[.slice none 0 0,.slice none 0 0,.bool false,.int .i64 o,.slice none 0 0,.pointer none,.pointer none,.int .i64 (fu:Int)] 120)) w2.heap.size o fu ⟨o1,o2⟩ a n cap ad cp L (HH2.out.below bm) hl hn (w.heap.size+1) HLO.out HEL.out _ _ _ _ _ _ HM3.out (by simp;omega))
 clear hb2 hb02 bm HX0 HH
 go_wp2_with fail
 refine HAG.out.mono ?_
 rintro r w4 ⟨rfl,tvL4,tvP4,lv4,LS4,PS4,Bq4,hM4,hF4⟩
 have HF4:Hid (Fr (fun k=>w.heap.size+1≤k) w2 w4):=(Fr.of_below HBM.out).trans hF4
 have HM4:=Hid.mk' hM4
 have HALL:=Hid.mk' (lookAtAllI w4 (w.heap.size+1) w2.heap.size n o fu hf (grb0 n L) _ _ _ _ _ _ HM4.out (grb0_ok ⟨o1,o2⟩ hl) (by omega) HG.out)
 clear hM4 hF4 HAG HM3
 obtain ⟨BG,d,hGd⟩:∃ BG d,G=(BG,d):=⟨_,_,rfl⟩
 subst hGd
 have key:Calls Tryz.prog 78 #[.func (.func 99) #[.pointer (some ⟨w2.heap.size,0,none⟩)] #[]] w4 fun r w'=>r=.returned (.bool d)∧∃ w1,(Fr (fun k=>w.heap.size+1≤k) w4 w1∧∃ f a tvL tvP lv LS PS Bq,MW w1 (w.heap.size+1) w2.heap.size n o f BG a tvL tvP lv LS PS Bq)∧w'=w1.alloc (.cells #[] 149):=by
  cases d
  ·exact redEnds_noM 99 _ w4 (fun w1=>Fr (fun k=>w.heap.size+1≤k) w4 w1∧∃ f a tvL tvP lv LS PS Bq,MW w1 (w.heap.size+1) w2.heap.size n o f BG a tvL tvP lv LS PS Bq) (enters_of Tryz.func99 (by kernel_rfl) rfl) (HALL.out.mono fun r u ⟨k1,k2,k3⟩=>by
    rcases k2 with ⟨q,_⟩ | ⟨_,q⟩
    ·cases q
    ·exact ⟨q,k1,k3⟩)
  ·exact redEnds_yesM 99 _ w4 (fun w1=>Fr (fun k=>w.heap.size+1≤k) w4 w1∧∃ f a tvL tvP lv LS PS Bq,MW w1 (w.heap.size+1) w2.heap.size n o f BG a tvL tvP lv LS PS Bq) (enters_of Tryz.func99 (by kernel_rfl) rfl) (HALL.out.mono fun r u ⟨k1,k2,k3⟩=>by
    rcases k2 with ⟨_,q⟩ | ⟨q,_⟩
    ·exact ⟨q,k1,k3⟩
    ·cases q)
 have HKEY:=Hid.mk' key
 clear key HALL
 go_wp2_with fail
 refine HKEY.out.mono ?_
 rintro r w6 ⟨rfl,w5,⟨hF5,f5,a5,tvL,tvP,lv,LS,PS,Bq,hM5⟩,rfl⟩
 have b6:=bel_one w5 (.cells #[] 149)
 have hM6:=hM5.below b6
 have hF6:Fr (fun k=>w.heap.size+1≤k) w2 (w5.alloc (.cells #[] 149)):=(HF4.out.trans hF5).next b6
 generalize w5.alloc (.cells #[] 149)=w6 at hM6 hF6 ⊢
 obtain ⟨la,lc,lad,lcp,rfl,_⟩:=hM6.bk.readL (by have:=hM6.m12;omega)
 obtain ⟨pa,pc,pA,pC,pAD,pCP,rfl,_⟩:=hM6.bk.readP (by have:=hM6.m12;omega)
 have HM6:=Hid.mk' hM6
 have HF6:=Hid.mk' hF6
 obtain ⟨⟨x0,x1,x2⟩,xz⟩:=HX2.out.fr hF6 (by omega)
 obtain ⟨c0,c1,c2,c3,c7,cz⟩:=hM6.bx
 have hne1:w2.heap.size≠w.heap.size:=by omega
 have hne2:w.heap.size≠w2.heap.size:=by omega
 clear hM5 hM6 hF5 hF6 b6 HKEY c3 c7
 go_wp2
 refine bodyPost_ret (v:=.agg #[.slice la BG.m lc,.slice pa BG.m pc,.bool d]) (by simp [results,Tryz.results55,go_sem, *]) rfl ?_
 have hFw:Below w.heap.size w w6:=Fr.below HB2.out HF6.out (fun k q=>by omega) (Nat.le_refl _)
 have hY:Fr (QY (w.heap.size+1) w2.heap.size lv Bq a5 (tri BG.m)) w6 ((((w6.setCell ⟨w2.heap.size,2,none⟩ (.bool d)).setCell ⟨w.heap.size,0,none⟩ (.slice la BG.m lc)).setCell ⟨w.heap.size,1,none⟩ (.slice pa BG.m pc)).setCell ⟨w.heap.size,2,none⟩ (.bool d)):=((((Fr.refl _ w6).set (fun _=>.inr (.inl rfl))).set (fun _=>.inl (by omega))).set (fun _=>.inl (by omega))).set (fun _=>.inl (by omega))
 exact ⟨_,_,LS,PS,rfl,bel_s3 (hFw.setCell (show w.heap.size≤w2.heap.size by omega) _) (Nat.le_refl _) _ _ _,(((HM6.out.bk.fr hY (fun b q=>q)).yet (fun b _ q=>.inl (Nat.lt_succ_of_lt q)))).low (Nat.le_succ _)⟩
theorem grbMakeI (w:World) (o:Int) (a:Option Addr) (n cap:Nat) (ad:Nat→Option Addr) (cp:Nat→Nat) (L:Nat→List T) (h:RdS w a n cap ad (lN L) cp (fN L)) (fuel:Int) :
  Calls Tryz.prog 55 #[.int .i64 o,.slice a n cap,.int .i64 fuel] w (MakeP w n (grbMake o n L fuel)):=by
 by_cases hc:(1≤o∧o≤3)∧lstOk n (lN L) (fN L)=true∧(1≤n∧n≤3)∧(0≤fuel∧fuel≤60)
 ·obtain ⟨fu,rfl⟩:∃ fu:Nat,fuel=(fu:Int):=⟨fuel.toNat,by omega⟩
  exact grbMakeI_ok w o a n cap ad cp L h fu hc.1 hc.2.1 hc.2.2.1 (by omega) (by unfold grbMake;rw [if_pos hc,Int.toNat_natCast])
 ·rw [grbMake_bad hc]
  exact grbMakeI_bad w o a n cap ad cp L h fuel hc
end Go.Proofs.YtdidlcjhodejjaaGreat
namespace Go.Proofs.YtdidlcjhodejjaaGreat
open Go.RowKit Go.Deep Go.Joins
set_option linter.unusedVariables false
end Go.Proofs.YtdidlcjhodejjaaGreat
