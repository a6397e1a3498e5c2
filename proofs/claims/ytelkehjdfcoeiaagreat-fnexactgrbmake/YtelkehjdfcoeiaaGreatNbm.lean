/-
  The proof of what is left of a pair: (*impl.grbMaking).proofOf.
-/
import Derived.Test.YtelkehjdfcoeiaaGreatNbl
import Derived.Deep.RegionLaw
set_option maxHeartbeats 16000000
set_option maxRecDepth 100000
namespace Go.Proofs.YtelkehjdfcoeiaaGreat
open Go.RowKit Go.Deep Go.Joins
set_option linter.unusedVariables false
set_option linter.unusedSimpArgs false
abbrev FB (u:World) (pb z:Nat) (t:T) (Mb:Nat) (pv:Value) (x:Nat) (i:Int) (prb y:Nat) (rv:Value):Prop:=
 u.cell? ⟨pb,z,none⟩=some (.int .i64 t.c)∧u.cell? ⟨pb,z+1,none⟩=some (.int .i64 t.m.x)∧u.cell? ⟨pb,z+2,none⟩=some (.int .i64 t.m.y)∧u.cell? ⟨pb,z+3,none⟩=some (.int .i64 t.m.d)∧u.cell? ⟨pb,z+4,none⟩=some (.int .i64 t.m.e)∧u.cell? ⟨Mb,1,none⟩=some pv∧u.cell? ⟨pb,x,none⟩=some (.int .i64 i)∧u.cell? ⟨prb,y,none⟩=some rv
theorem FB.below {u u':World} {pb z:Nat} {t:T} {Mb:Nat} {pv:Value} {x:Nat} {i:Int} {prb y:Nat} {rv:Value} (h:FB u pb z t Mb pv x i prb y rv) (hb:Below u.heap.size u u'):FB u' pb z t Mb pv x i prb y rv:=by
 obtain⟨a0,a1,a2,a3,a4,b0,c0,d0⟩:=h;have l1:=cQ u _ a0
 have l2:=cQ u _ b0;have l3:=cQ u _ d0
 exact⟨(hb.cell (p:=⟨pb,z,none⟩) l1).trans a0,(hb.cell (p:=⟨pb,z+1,none⟩) l1).trans a1,(hb.cell (p:=⟨pb,z+2,none⟩) l1).trans a2,(hb.cell (p:=⟨pb,z+3,none⟩) l1).trans a3,(hb.cell (p:=⟨pb,z+4,none⟩) l1).trans a4,(hb.cell (p:=⟨Mb,1,none⟩) l2).trans b0,(hb.cell (p:=⟨pb,x,none⟩) l1).trans c0,(hb.cell (p:=⟨prb,y,none⟩) l3).trans d0⟩
theorem XM:(Tryz.prog.info? 194).map (fun i=>(i.zero,i.size,i.bytes))=some (some (.agg #[.slice none 0 0,.slice none 0 0]),2,48):=by kernel_rfl
def PV (qa:Nat→Option Addr) (qs:Nat→List T) (qc:Nat→Nat) (ra:Nat→Option Addr) (g:Nat) (rc:Nat→Nat):Nat→List Value
 |0=>[]
 |t+1=>PV qa qs qc ra g rc t++[.slice (qa t) (qs t).length (qc t),.slice (ra t) g (rc t)]
theorem JB (qa:Nat→Option Addr) (qs:Nat→List T) (qc:Nat→Nat) (ra:Nat→Option Addr) (g:Nat) (rc:Nat→Nat):∀t,(PV qa qs qc ra g rc t).length=t*2
 |0=>rfl
 |t+1=>by show(PV qa qs qc ra g rc t++_).length=_;rw[List.length_append,JB qa qs qc ra g rc t];simp;omega
theorem PW {qa:Nat→Option Addr} {qs:Nat→List T} {qc:Nat→Nat} {ra:Nat→Option Addr} {g:Nat} {rc:Nat→Nat}:∀(n t:Nat),t<n→(PV qa qs qc ra g rc n)[t*2]? =some (.slice (qa t) (qs t).length (qc t))∧(PV qa qs qc ra g rc n)[t*2+1]? =some (.slice (ra t) g (rc t))
 |0,t,h=>by omega
 |n+1,t,h=>by
  have hl:=JB qa qs qc ra g rc n;show(PV qa qs qc ra g rc n++_)[t*2]? =_∧(PV qa qs qc ra g rc n++_)[t*2+1]? =_
  by_cases e:t=n
  ·subst e;rw[List.getElem?_append_right (by omega),List.getElem?_append_right (by omega),hl];simp
  ·obtain⟨h1,h2⟩:=PW (qa:=qa) (qs:=qs) (qc:=qc) (ra:=ra) (g:=g) (rc:=rc) n t (by omega);rw[List.getElem?_append_left (by omega),List.getElem?_append_left (by omega)];exact⟨h1,h2⟩
theorem MT (a b:Option Addr) (n m c d:Nat):∀u∈[Value.slice a n c,Value.slice b m d],u.oneCell'=true:=fun u hu=>by
 simp at hu;rcases hu with h|h<;>(subst h;rfl)
theorem GE {w:World} {lo:Nat} {v:Value} {M:Nat} {qa:Nat→Option Addr} {qc:Nat→Nat} {ra:Nat→Option Addr} {rc:Nat→Nat} {rad:Nat→Nat→Option Addr} {rcp:Nat→Nat→Nat} {g:Nat} {qs:Nat→List T} {Q:Nat→Nat→List T} (h:w.ownsRow lo 194 2 v M (PV qa qs qc ra g rc M)) (hM:M≤100) (hq:∀t,t<M→RL w (qa t) (qc t) (qs t)) (hr:∀t,t<M→eH w (ra t) g (rc t) (rad t) (lN (Q t)) (rcp t) (fN (Q t))):∃oa oc,v= .slice oa M oc∧BN w oa M oc qa qc ra rc rad rcp g qs Q:=by
 rcases h.2 with⟨hv,h0⟩|⟨b,cap,cur,hv,hlo,hg,hnc,_⟩
 ·exact⟨none,0,by rw[hv,h0],by omega,hM,.inl h0,hq,hr⟩
 ·have hr':=h;rw[hv]at hr';refine⟨some ⟨b,0,none⟩,cap,hv,hnc,hM,.inr ⟨b,0,rfl,(hr'.lt b rfl).2,fun t ht=>?_⟩,hq,hr⟩;obtain⟨e1,e2⟩:=PW (qa:=qa) (qs:=qs) (qc:=qc) (ra:=ra) (g:=g) (rc:=rc) M t ht;exact⟨by rw[Nat.zero_add,hr'.cellAt (t*2) (by omega),e1],by rw[Nat.zero_add,hr'.cellAt (t*2+1) (by omega),e2]⟩
def BI {α:Type} (x0:α) (f:Nat→α):Nat→α
 |0=>x0
 |t+1=>f t
theorem Au (w:World) (U:Obj) (y:TypeId) (v0 v1:Value):((w.alloc U).alloc (.cells #[v0,v1] y)).drew.cell? ⟨w.heap.size+1,0,none⟩=some v0∧((w.alloc U).alloc (.cells #[v0,v1] y)).drew.cell? ⟨w.heap.size+1,1,none⟩=some v1:=by
 have:=BJ (w.alloc U) y v0 v1
 rwa[World.size_alloc]at this
theorem Av (w:World) (U:Obj) (y:TypeId) (v0 v1:Value):((w.alloc (.cells #[v0,v1] y)).alloc U).drew.cell? ⟨w.heap.size,0,none⟩=some v0∧((w.alloc (.cells #[v0,v1] y)).alloc U).drew.cell? ⟨w.heap.size,1,none⟩=some v1:=by
 have h:=BJ w y v0 v1;have b:=aC (w.alloc (.cells #[v0,v1] y)) U
 exact⟨(b.cell (p:=⟨w.heap.size,0,none⟩) (by simp)).trans h.1,(b.cell (p:=⟨w.heap.size,1,none⟩) (by simp)).trans h.2⟩
theorem Aw (w:World) (X:Obj) (t:T):RL ((w.alloc X).alloc (.cells #[.int .i64 t.c,.int .i64 t.m.x,.int .i64 t.m.y,.int .i64 t.m.d,.int .i64 t.m.e] 86)).drew (some ⟨w.heap.size+1,0,none⟩) 1 [t]:=by have:=fQ (w.alloc X) t;rw[World.size_alloc]at this;exact RL.below this (bQ _ _).drew
theorem QM (w:World) (Mb pb:Nat) (p:Pr) (nx:Option Addr) (hp:iF w pb p nx) (g m:Nat) (hg:g≤12) (hm:m≤12) (pa:Option Addr) (pc:Nat) (hMb:w.cell? ⟨Mb,1,none⟩=some (.slice pa m pc)) (A:Nat→Option Addr) (C:Nat→Nat) (AD:Nat→Nat→Option Addr) (CP:Nat→Nat→Nat) (P:Nat→Nat→List T) (hP:R3 w pa m pc g A C AD CP P) (hi:p.i<m) (hk:p.k<m) (ta:Option Addr) (tc:Nat) (tad:Nat→Option Addr) (tcp:Nat→Nat) (q:Nat→List T) (hq:eH w ta m tc tad (lN q) tcp (fN q)) {E:Option (Nat→List T)} (hE:iE (fun j=>JC [p.t1] (P p.i) (DH p.t2 q) (LR P p.k) j (m+1)) g=E):Calls Tryz.prog 126 #[.pointer (some ⟨Mb,0,none⟩),.pointer (some ⟨pb,0,none⟩),.slice ta m tc] w (Db w g E):=by
 obtain⟨i2,hi2,hx0,hx1,hx2⟩:=info_parts XM;obtain⟨prb,poff,rfl,hprb,hpcl⟩:=hP.2.2.1.resolve_left (by omega);obtain⟨tb,toff,rfl,htb,htcl⟩:=hq.2.2.1.resolve_left (by omega);have hil:(p.i:Int)<(m:Int):=by omega
 have hkl:(p.k:Int)<(m:Int):=by omega
 have hi0:(0:Int)≤(p.i:Int):=by omega
 have hk0:(0:Int)≤(p.k:Int):=by omega
 have hml:(m:Int)≤12:=by omega
 have dr:Below w.heap.size w w.drew:=(bQ _ _).drew;have HS1:Hid (FB w.drew pb 0 p.t1 Mb (.slice (some ⟨prb,poff,none⟩) m pc) 10 (p.i:Int) prb (poff+p.i) (.slice (A p.i) g (C p.i))):=FB.below (u:=w) ⟨hp.a0,hp.a1,hp.a2,hp.a3,hp.a4,hMb,hp.ci,hpcl p.i hi⟩ dr
 have HS2:Hid (FB w pb 5 p.t2 Mb (.slice (some ⟨prb,poff,none⟩) m pc) 11 (p.k:Int) prb (poff+p.k) (.slice (A p.k) g (C p.k))):=⟨hp.b0,hp.b1,hp.b2,hp.b3,hp.b4,hMb,hp.ck,hpcl p.k hk⟩
 have HP:=aA hP;have HQ:=aA hq
 have HE:=aA hE;have HTC:=aA htcl
 have HPC:=aA hpcl;have HMB:=aA hMb
 have hMl:Mb<w.heap.size:=cQ w _ hMb;clear hp hP hq hE htcl hpcl hMb dr;go_enter Tryz.func126,Tryz.ntmps126;go_wp2_with fail;refine Code.wp_mono (Q:=NoPanic fun e a z=>e=Exit.normal∧∃(g7:Nat) (fa:Option Addr) (x11 x12 x13 x14 x15 x16 x17 x18 x19 x20 x21 x22 x23 x24 x25 x26 x27 x28:Value),a={tmps:=#[.pointer (some ⟨Mb,0,none⟩),.pointer (some ⟨pb,0,none⟩),.slice (some ⟨tb,toff,none⟩) m tc,undef,undef,undef,.slice none 0 0,.pointer (some ⟨g7,0,none⟩),undef,undef,undef,x11,x12,x13,x14,x15,x16,x17,x18,x19,x20,x21,x22,x23,x24,x25,x26,x27,x28,undef,undef,undef,undef,undef,undef,undef,undef,undef,undef,undef,undef,undef,undef,undef,undef,undef,undef,undef,undef,undef,undef,undef,undef,undef,undef,undef,undef,undef,undef,undef,undef,undef,undef,undef,undef,undef,undef,undef,undef,undef,undef,undef],defers:=[]}∧z.cell? ⟨g7,0,none⟩=some (.slice fa 1 1)∧z.cell? ⟨g7,1,none⟩=some (.slice (A p.i) g (C p.i))∧RL z fa 1 [p.t1]∧Below w.heap.size w z) ?_ ?_;rotate_left
 ·have hS:=HS1.out
  go_region_held3 (fun x=>FB x pb 0 p.t1 Mb (.slice (some ⟨prb,poff,none⟩) m pc) 10 (p.i:Int) prb (poff+p.i) (.slice (A p.i) g (C p.i))) (first|with_reducible exact hS|with_reducible exact FB.below hS (aC _ _)|with_reducible exact FB.below (FB.below hS (aC _ _)) (aC _ _)) (fail)
  ·exact NoPanic.normal ⟨rfl,_,_,_,_,_,_,_,_,_,_,_,_,_,_,_,_,_,_,_,_,rfl,(Au w _ 194 _ _).1,(Au w _ 194 _ _).2,RL.below (RL.below (fQ w p.t1) (aC _ _)) (bQ _ _).drew,(aN w _ _).drew⟩
  ·exact NoPanic.normal ⟨rfl,_,_,_,_,_,_,_,_,_,_,_,_,_,_,_,_,_,_,_,_,rfl,(Av w _ 194 _ _).1,(Av w _ 194 _ _).2,Aw w _ p.t1,(aN w _ _).drew⟩
 ·rintro e a z hqz;obtain⟨rfl,g7,fa,x11,x12,x13,x14,x15,x16,x17,x18,x19,x20,x21,x22,x23,x24,x25,x26,x27,x28,rfl,c70,c71,hrl7,hbz⟩:=NoPanic.imp _ _ _ hqz;have dz:Below z.heap.size z z.drew:=(bQ _ _).drew
  have HBZ:=aA hbz;have HBZd:=aA (aB hbz dz)
  have HRL7:=aA hrl7;have H7:=aA (And.intro c70 c71)
  have hS:=FB.below (FB.below HS2.out hbz) dz;have hg7:g7<z.heap.size:=cQ z _ c70
  have hwz:w.heap.size≤z.heap.size:=hbz.size;clear hqz c70 c71 hrl7 hbz dz;go_wp2_with fail
  go_region_held3 (fun x=>FB x pb 5 p.t2 Mb (.slice (some ⟨prb,poff,none⟩) m pc) 11 (p.k:Int) prb (poff+p.k) (.slice (A p.k) g (C p.k))) (first|with_reducible exact hS|with_reducible exact FB.below hS (aC _ _)|with_reducible exact FB.below (FB.below hS (aC _ _)) (aC _ _)) (fail)
  obtain⟨z2,hz2⟩:∃z2,z2=z.alloc (.cells #[.int .i64 p.t2.c,.int .i64 p.t2.m.x,.int .i64 p.t2.m.y,.int .i64 p.t2.m.d,.int .i64 p.t2.m.e] 86):=⟨_,rfl⟩
  have bz2:Below z.heap.size z z2:=by rw[hz2];exact aC z _
  have hs2:z2.heap.size=z.heap.size+1:=by rw[hz2];simp
  have HOW0:=aA (World.ownsRow_lit (base:=z2.heap.size) (e:=194) (size:=2) z2 #[.slice (some ⟨z.heap.size,0,none⟩) 1 1,.slice (A p.k) g (C p.k)] 1 (Nat.le_refl _) (by unfold maxLen;omega) rfl);have HRL2:Hid (RL z2 (some ⟨z.heap.size,0,none⟩) 1 [p.t2]):=by rw[hz2];exact fQ z p.t2
  have HBZ2:=aA (aB HBZ.out bz2);have HBz2:=aA bz2
  have HZ2:=aA hz2;have hs2':z.heap.size<z2.heap.size:=by omega
  have HB0:=aA ((aC z2 (.cells #[.slice (some ⟨z.heap.size,0,none⟩) 1 1,.slice (A p.k) g (C p.k)] 194)).drew);have HOW:Hid (((z.alloc (.cells #[.int .i64 p.t2.c,.int .i64 p.t2.m.x,.int .i64 p.t2.m.y,.int .i64 p.t2.m.d,.int .i64 p.t2.m.e] 86)).alloc (.cells #[.slice (some ⟨z.heap.size,0,none⟩) 1 1,.slice (A p.k) g (C p.k)] 194)).drew.ownsRow z2.heap.size 194 2 (.slice (some ⟨z.heap.size+1,0,none⟩) 1 1) (0+1) (PV (BI (some ⟨z.heap.size,0,none⟩) tad) (DH p.t2 q) (BI 1 tcp) (BI (A p.k) A) g (BI (C p.k) C) (0+1))):=by rw[←HZ2.out,←hs2];exact dY HOW0.out (bQ _ _).drew
  have HB00:Hid (Below z2.heap.size z2 ((z.alloc (.cells #[.int .i64 p.t2.c,.int .i64 p.t2.m.x,.int .i64 p.t2.m.y,.int .i64 p.t2.m.d,.int .i64 p.t2.m.e] 86)).alloc (.cells #[.slice (some ⟨z.heap.size,0,none⟩) 1 1,.slice (A p.k) g (C p.k)] 194)).drew):=by rw[←HZ2.out];exact HB0.out
  clear hS bz2 hz2 hs2 HOW0 HB0 HS1 HS2;go_wp2;go_loopw [8,50] (fun ov tt wr=>∃t:Nat,t≤m∧tt= .int .i64 (t:Int)∧Below z2.heap.size z2 wr∧wr.ownsRow z2.heap.size 194 2 ov (t+1) (PV (BI (some ⟨z.heap.size,0,none⟩) tad) (DH p.t2 q) (BI 1 tcp) (BI (A p.k) A) g (BI (C p.k) C) (t+1))) (fun _ tt _=>m-(intOf tt).toNat);case atStart=>exact⟨0,Nat.zero_le _,rfl,HB00.out,HOW.out⟩
  case round=>
   obtain⟨t,ht,rfl,hB,hown⟩:=hrel;have HB:=aA hB
   have HO:=aA hown;have hBw:=aB HBZ2.out hB
   have HBW:=aA hBw;have hsr:z2.heap.size≤wr.heap.size:=hB.size
   by_cases htm:t<m
   ·have htl:(t:Int)<(m:Int):=by omega
    have hmax:t+1+1≤maxLen:=by unfold maxLen;omega
    have d0:wr.cell? ⟨tb,toff+t,none⟩=some (.slice (tad t) (q t).length (tcp t)):=(hBw.cell (p:=⟨tb,toff+t,none⟩) htb).trans (HTC.out t htm);have d1:wr.cell? ⟨Mb,1,none⟩=some (.slice (some ⟨prb,poff,none⟩) m pc):=(hBw.cell (p:=⟨Mb,1,none⟩) hMl).trans HMB.out
    have d2:wr.cell? ⟨prb,poff+t,none⟩=some (.slice (A t) g (C t)):=(hBw.cell (p:=⟨prb,poff+t,none⟩) hprb).trans (HPC.out t htm);clear hB hown hBw;go_wp2_with (at_builtin;refine wpList_append_lies _ rfl (.tmp 55) (.tmp 66) 195 rfl z2.heap.size 194 i2 _ 2 48 Tryz.underlying195 hi2 hx0 hx1 hx2 rfl (by omega) _ (t+1) (PV (BI (some ⟨z.heap.size,0,none⟩) tad) (DH p.t2 q) (BI 1 tcp) (BI (A p.k) A) g (BI (C p.k) C) (t+1)) rfl (HO.out.alloc _) ⟨wr.heap.size,0,none⟩ 1 1 [.slice (tad t) (q t).length (tcp t),.slice (A t) g (C t)] rfl rfl (World.news_of_block (heap_alloc_new wr _)) (MT _ _ _ _ _ _) (by omega) hmax (by omega) (by simp;omega) _ rfl ?_;intro g1 cap1 w8 hown2 hgrow2 hat2 hlt2;have HO8:=aA hown2;have HB8:=aA ((HB.out.alloc HB.out.size _).grown hgrow2 (by simp;omega) (fun k e=>(HO.out.lt k e).1));clear hown2 hgrow2 hat2 hlt2);go_roundw;case rel=>exact⟨t+1,by omega,by go_num,HB8.out,HO8.out⟩
    case measure=>simp[intOf];omega
   ·have htl:¬(t:Int)<(m:Int):=by omega
    have hte:t=m:=by omega
    subst hte;have hq9:∀x,x<t+1→RL wr (BI (some ⟨z.heap.size,0,none⟩) tad x) (BI 1 tcp x) (DH p.t2 q x):=fun x hx=>by
     cases x with
     |zero=>exact HRL2.out.below hB
     |succ x=>exact(HQ.out.2.2.2 x (by omega)).below hBw
    have hr9:∀x,x<t+1→eH wr (BI (A p.k) A x) g (BI (C p.k) C x) (BI (AD p.k) AD x) (lN (LR P p.k x)) (BI (CP p.k) CP x) (fN (LR P p.k x)):=fun x hx=>by
     cases x with
     |zero=>exact(HP.out.2.2.2 p.k hk).below hBw
     |succ x=>exact(HP.out.2.2.2 x (by omega)).below hBw
    obtain⟨oa,oc,rfl,hPa⟩:=GE hown (by omega) hq9 hr9;have hz9:=aB HBz2.out hB
    have c0:=(hz9.cell (p:=⟨g7,0,none⟩) hg7).trans H7.out.1;have c1:=(hz9.cell (p:=⟨g7,1,none⟩) hg7).trans H7.out.2
    have hcall:=KZ wr fa 1 [p.t1] (HRL7.out.below hz9) (A p.i) g (C p.i) (AD p.i) (CP p.i) (P p.i) ((HP.out.2.2.2 p.i hi).below hBw) hg oa (t+1) oc _ _ _ _ _ _ _ _ hPa HE.out;have HCL:=aA hcall
    clear hB hown hBw hq9 hr9 hPa hz9 hcall;go_wp2_with fail;refine HCL.out.mono ?_;rintro e w9 ⟨b9,h9⟩;have HB9:=aA (aB HBW.out b9)
    have hs9:w.heap.size≤wr.heap.size:=HBW.out.size;clear b9 HCL;rcases h9 with⟨R,xa,xc,xad,xcp,xlo,xRb,xB,rfl,rfl,hxl,hxo⟩|⟨rfl,rfl⟩
    ·have HXO:=aA hxo;have HXL:=aA hxl
     clear hxo hxl;go_wp2;go_ret;exact⟨HB9.out,.inl ⟨R,xa,xc,xad,xcp,xlo,xRb,xB,rfl,rfl,gW hs9 HXL.out,HXO.out⟩⟩
    ·exact⟨rfl,HB9.out,.inr ⟨rfl,rfl⟩⟩
theorem Fr.step {P P':Nat→Prop} {a b c:World} (h:Fr P a b) (k:Fr P' b c) (hp:∀i,i<a.heap.size→P' i→P i):Fr P a c:=
 ⟨k.os.trans h.os,k.tape.trans h.tape,k.output.trans h.output,gW h.size k.size,fun i hi hn=>(k.block i (iZ hi h.size) (fun e=>hn (hp i hi e))).trans (h.block i hi hn)⟩
abbrev zD (u:World) (b1 b2 Q z:Nat) (t1 t2:T) (lv:Value):Prop:=
 u.cell? ⟨b1,0,none⟩=some (.int .i64 t1.c)∧u.cell? ⟨b1,1,none⟩=some (.int .i64 t1.m.x)∧u.cell? ⟨b1,2,none⟩=some (.int .i64 t1.m.y)∧u.cell? ⟨b1,3,none⟩=some (.int .i64 t1.m.d)∧u.cell? ⟨b1,4,none⟩=some (.int .i64 t1.m.e)∧u.cell? ⟨b2,0,none⟩=some (.int .i64 t2.c)∧u.cell? ⟨b2,1,none⟩=some (.int .i64 t2.m.x)∧u.cell? ⟨b2,2,none⟩=some (.int .i64 t2.m.y)∧u.cell? ⟨b2,3,none⟩=some (.int .i64 t2.m.d)∧u.cell? ⟨b2,4,none⟩=some (.int .i64 t2.m.e)∧u.cell? ⟨Q,z,none⟩=some lv
theorem zD.mk {u:World} {b1 b2 Q z:Nat} {t1 t2:T} {lv:Value} (h1:C5 u b1 t1) (h2:C5 u b2 t2) (h3:u.cell? ⟨Q,z,none⟩=some lv):zD u b1 b2 Q z t1 t2 lv:=⟨h1.1,h1.2.1,h1.2.2.1,h1.2.2.2.1,h1.2.2.2.2,h2.1,h2.2.1,h2.2.2.1,h2.2.2.2.1,h2.2.2.2.2,h3⟩
theorem zD.below {u u':World} {b1 b2 Q z:Nat} {t1 t2:T} {lv:Value} (h:zD u b1 b2 Q z t1 t2 lv) (hb:Below u.heap.size u u'):zD u' b1 b2 Q z t1 t2 lv:=by
 obtain⟨a0,a1,a2,a3,a4,c0,c1,c2,c3,c4,d0⟩:=h;have l1:=cQ u _ a0
 have l2:=cQ u _ c0;have l3:=cQ u _ d0
 exact⟨(hb.cell (p:=⟨b1,0,none⟩) l1).trans a0,(hb.cell (p:=⟨b1,1,none⟩) l1).trans a1,(hb.cell (p:=⟨b1,2,none⟩) l1).trans a2,(hb.cell (p:=⟨b1,3,none⟩) l1).trans a3,(hb.cell (p:=⟨b1,4,none⟩) l1).trans a4,(hb.cell (p:=⟨b2,0,none⟩) l2).trans c0,(hb.cell (p:=⟨b2,1,none⟩) l2).trans c1,(hb.cell (p:=⟨b2,2,none⟩) l2).trans c2,(hb.cell (p:=⟨b2,3,none⟩) l2).trans c3,(hb.cell (p:=⟨b2,4,none⟩) l2).trans c4,(hb.cell (p:=⟨Q,z,none⟩) l3).trans d0⟩
theorem zD.fr {P:Nat→Prop} {u u':World} {b1 b2 Q z:Nat} {t1 t2:T} {lv:Value} (h:zD u b1 b2 Q z t1 t2 lv) (hf:Fr P u u') (h1:¬P b1) (h2:¬P b2) (h3:u'.cell? ⟨Q,z,none⟩=some lv):zD u' b1 b2 Q z t1 t2 lv:=by
 obtain⟨a0,a1,a2,a3,a4,c0,c1,c2,c3,c4,d0⟩:=h;have l1:=cQ u _ a0
 have l2:=cQ u _ c0;exact⟨(hf.cell l1 h1).trans a0,(hf.cell l1 h1).trans a1,(hf.cell l1 h1).trans a2,(hf.cell l1 h1).trans a3,(hf.cell l1 h1).trans a4,(hf.cell l2 h2).trans c0,(hf.cell l2 h2).trans c1,(hf.cell l2 h2).trans c2,(hf.cell l2 h2).trans c3,(hf.cell l2 h2).trans c4,h3⟩
theorem zD.c5 {u:World} {b1 b2 Q z:Nat} {t1 t2:T} {lv:Value} (h:zD u b1 b2 Q z t1 t2 lv):C5 u b2 t2:=⟨h.2.2.2.2.2.1,h.2.2.2.2.2.2.1,h.2.2.2.2.2.2.2.1,h.2.2.2.2.2.2.2.2.1,h.2.2.2.2.2.2.2.2.2.1⟩
theorem IG {w w':World} {row:Option Nat} (hg:w.grownBy w' row) {b o:Nat} (hb:b<w.heap.size) (hne:¬row=some b):w'.cell? ⟨b,o,none⟩=w.cell? ⟨b,o,none⟩:=nC (w:=w) (a:=⟨b,o,none⟩) (hg.block b hb (fun e=>hne e.symm))
theorem xY {w w':World} {row:Option Nat} (hg:w.grownBy w' row) {b o:Nat} (hb:b<w.heap.size) (hne:¬row=some b):w'.frozen? ⟨b,o,none⟩=w.frozen? ⟨b,o,none⟩:=World.frozen?_of_block (w:=w) (a:=⟨b,o,none⟩) (hg.block b hb (fun e=>hne e.symm))
theorem QX (kf:Nat→T) (m:Nat):(List.range (m+1)).map kf=(List.range m).map kf++[kf m]:=by simp[List.range_succ]
theorem XU (kf:Nat→T) {m i:Nat} (h:i<m):lf ((List.range m).map kf) i=kf i:=by rw[iH (by simpa using h)];simp
theorem nE.lead {w w':World} {lo Q z:Nat} {lv lv':Value} {m:Nat} {kf:Nat→T} {B:Nat→Nat} {a e:Nat} (h:nE w lo Q z lv m kf B a e) {row:Option Nat} (hg:w.grownBy w' row) (hr:row=lv.ownBlock) (ho:w'.ownsRow lo 86 5 lv' ((List.range (m+1)).map kf).length (aE ((List.range (m+1)).map kf))) (hl:∀g,lv'.ownBlock=some g→lv.ownBlock=some g∨g=w.heap.size):nE (w'.setCell ⟨Q,z,none⟩ lv') lo Q z lv' (m+1) kf B a e:=by
 have f1:Fr (fun k=>lv.ownBlock=some k) w w':=(Fr.refl _ w).grown hg (fun g e _=>by rw[hr]at e;exact e);have f2:Fr (fun k=>k=Q) w' (w'.setCell ⟨Q,z,none⟩ lv'):=(Fr.refl _ w').set (fun _=>rfl)
 have nQ:¬lv.ownBlock=some Q:=fun e=>h.ap Q e rfl;have hlt:Q<w.heap.size:=h.lt
 have ap':∀g,lv'.ownBlock=some g→g≠Q:=fun g hg'=>by
  rcases hl g hg' with q|q
  ·exact h.ap g q
  ·omega
 refine⟨gF ((f1.cell h.lt nQ).trans h.cl),?_,?_,?_,f2.owns ho (fun g hg' q=>ap' g hg' q),ap',?_,?_,h.inj,h.hQ⟩
 ·rw[aJ (pE (by omega))];exact(f1.cell h.lt nQ).trans h.cf
 ·obtain⟨v,c1,c2⟩:=h.ct;exact⟨v,by rw[aJ (pE (by omega))];exact(f1.cell h.lt nQ).trans c1,c2⟩
 ·simp only[World.frozen?_setCell];exact⟨(f1.frozen h.lt nQ).trans h.fz.1,(f1.frozen h.lt nQ).trans h.fz.2.1,(f1.frozen h.lt nQ).trans h.fz.2.2⟩
 ·exact fun j j1 j2=>((h.pr j j1 j2).fr f1 (h.bk j j1 j2).2.2).fr f2 (h.bk j j1 j2).2.1
 ·intro j j1 j2;refine⟨(h.bk j j1 j2).1,(h.bk j j1 j2).2.1,fun q=>?_⟩;rcases hl _ q with q'|q'
  ·exact(h.bk j j1 j2).2.2 q'
  ·have:=(h.pr j j1 j2).lt;omega
def Kx (Q z:Nat) (w w':World):Prop:=∀x,x≠z→x≠z+1→x≠z+2→w'.cell? ⟨Q,x,none⟩=w.cell? ⟨Q,x,none⟩∧w'.frozen? ⟨Q,x,none⟩=w.frozen? ⟨Q,x,none⟩
theorem Kx.refl (Q z:Nat) (w:World):Kx Q z w w:=fun _ _ _ _=>⟨rfl,rfl⟩
theorem Kx.trans {Q z:Nat} {a b c:World} (h:Kx Q z a b) (k:Kx Q z b c):Kx Q z a c:=fun x h1 h2 h3=>⟨(k x h1 h2 h3).1.trans (h x h1 h2 h3).1,(k x h1 h2 h3).2.trans (h x h1 h2 h3).2⟩
theorem Kx.next {Q z:Nat} {a b c:World} (h:Kx Q z a b) (hQ:Q<b.heap.size) (hb:Below b.heap.size b c):Kx Q z a c:=h.trans fun x _ _ _=>⟨hb.cell (p:=⟨Q,x,none⟩) hQ,hb.frozen (p:=⟨Q,x,none⟩) hQ⟩
theorem Kx.setQ {Q z:Nat} {a b:World} (h:Kx Q z a b) {y:Nat} (hy:y=z∨y=z+1∨y=z+2) (v:Value):Kx Q z a (b.setCell ⟨Q,y,none⟩ v):=h.trans fun x h1 h2 h3=>⟨aJ (pE (by omega)),World.frozen?_setCell ..⟩
theorem Kx.setO {Q z:Nat} {a b:World} (h:Kx Q z a b) {k y:Nat} (hk:k≠Q) (v:Value):Kx Q z a (b.setCell ⟨k,y,none⟩ v):=h.trans fun x h1 h2 h3=>⟨aJ (fun e=>hk (by injection e)),World.frozen?_setCell ..⟩
theorem Kx.grownK {Q z:Nat} {a b c:World} (h:Kx Q z a b) {row:Option Nat} (hg:b.grownBy c row) (hQ:Q<b.heap.size) (hr:¬row=some Q):Kx Q z a c:=h.trans fun x _ _ _=>⟨IG (b:=Q) (o:=x) hg hQ hr,xY (b:=Q) (o:=x) hg hQ hr⟩
theorem Kx.fr {Q z:Nat} {a b c:World} (h:Kx Q z a b) {P:Nat→Prop} (hf:Fr P b c) (hQ:Q<b.heap.size) (hp:¬P Q):Kx Q z a c:=h.trans fun x _ _ _=>⟨hf.cell hQ hp,hf.frozen hQ hp⟩
theorem Ba (w:World) (lo Q z:Nat) (lv:Value) (m:Nat) (kf:Nat→T) (B:Nat→Nat) (a e:Nat) (h:nE w lo Q z lv m kf B a e) (hae:a≤e) (b:Nat) (hb:iF w b (uG kf e) none) (hlo:lo≤b) (hbQ:b≠Q) (hbl:lv.ownBlock≠some b) (hbB:∀j,a≤j→j<e→B j≠b):Calls Tryz.prog 159 #[.pointer (some ⟨Q,z,none⟩),.pointer (some ⟨b,0,none⟩)] w fun r w'=>r= .returned (.tuple #[])∧nE w' lo Q z lv m kf (EW B e b) a (e+1)∧Fr (fun k=>k=Q∨(a<e∧k=B (e-1))) w w'∧Kx Q z w w':=by
 have HP:=aA (h.push hae hb hlo hbQ hbl hbB);obtain⟨tv,ht,ht2⟩:=h.ct;have c0:=h.cf
 have z1:=h.fz.2.1;have z2:=h.fz.2.2
 by_cases hlt:a<e
 ·obtain rfl:=ht2 hlt;have e0:qF B a e=some ⟨B a,0,none⟩:=if_pos hlt
  rw[e0]at c0;have hp:=h.pr (e-1) (by omega) (by omega)
  have k1:=hp.nx;have k2:=hp.fz
  have hne:B (e-1)≠Q:=(h.bk (e-1) (by omega) (by omega)).2.1;have HQ:=HP.out
  rw[if_pos hlt]at HQ;have HF:Hid (Fr (fun k=>k=Q∨(a<e∧k=B (e-1))) w ((w.setCell ⟨B (e-1),12,none⟩ (.pointer (some ⟨b,0,none⟩))).setCell ⟨Q,z+2,none⟩ (.pointer (some ⟨b,0,none⟩)))):=((Fr.refl _ w).set (fun _=>.inr ⟨hlt,rfl⟩)).set (fun _=>.inl rfl)
  have HK:Hid (Kx Q z w ((w.setCell ⟨B (e-1),12,none⟩ (.pointer (some ⟨b,0,none⟩))).setCell ⟨Q,z+2,none⟩ (.pointer (some ⟨b,0,none⟩)))):=((Kx.refl Q z w).setO hne _).setQ (.inr (.inr rfl)) _;have HQ2:=aA HQ
  obtain⟨L,hL⟩:∃L,B (e-1)=L:=⟨_,rfl⟩
  rw[hL]at ht k1 k2 hne;have HL:=aA hL
  clear h hp HQ ht2 e0 HP hb hL hbB;go_enter Tryz.func159,Tryz.ntmps159;go_wp2
  go_end0
  refine⟨rfl,?_⟩;have h1:=HQ2.out
  have h2:=HF.out;have h3:=HK.out
  rw[HL.out]at h1;rw[←HL.out]at h1⊢;exact⟨h1,h2,h3⟩
 ·have e0:qF B a e=none:=if_neg hlt;rw[e0]at c0;have HQ:=HP.out
  rw[if_neg hlt]at HQ;have HF:Hid (Fr (fun k=>k=Q∨(a<e∧k=B (e-1))) w ((w.setCell ⟨Q,z+1,none⟩ (.pointer (some ⟨b,0,none⟩))).setCell ⟨Q,z+2,none⟩ (.pointer (some ⟨b,0,none⟩)))):=((Fr.refl _ w).set (fun _=>.inl rfl)).set (fun _=>.inl rfl)
  have HQ2:=aA HQ;clear h HQ ht2 e0 HP hb hbB;go_enter Tryz.func159,Tryz.ntmps159;go_wp2
  go_end0
  exact⟨rfl,HQ2.out,HF.out,((Kx.refl Q z w).setQ (.inr (.inl rfl)) _).setQ (.inr (.inr rfl)) _⟩
theorem Cv (w:World) (lo Q z:Nat) (lv:Value) (m:Nat) (kf:Nat→T) (B:Nat→Nat) (a e:Nat) (h:nE w lo Q z lv m kf B a e) (hlt:a<e):Calls Tryz.prog 79 #[.pointer (some ⟨Q,z,none⟩)] w fun r w'=>r= .returned (.pointer (some ⟨B a,0,none⟩))∧nE w' lo Q z lv m kf B (a+1) e∧iF w' (B a) (uG kf a) (qF B (a+1) e)∧Fr (fun k=>k=Q) w w'∧Kx Q z w w':=by
 have HP:=aA (h.pop hlt);have c0:=h.cf
 have z1:=h.fz.2.1;have e0:qF B a e=some ⟨B a,0,none⟩:=if_pos hlt
 rw[e0]at c0;have hp:=h.pr a (Nat.le_refl _) hlt
 have k1:=hp.nx;have k2:(if a+1<e then some (⟨B (a+1),0,none⟩:Addr)else none)=qF B (a+1) e:=rfl
 rw[k2]at k1;have hne:B a≠Q:=(h.bk a (Nat.le_refl _) hlt).2.1
 have HF:Hid (Fr (fun k=>k=Q) w (w.setCell ⟨Q,z+1,none⟩ (.pointer (qF B (a+1) e)))):=(Fr.refl _ w).set (fun _=>rfl);clear h hp e0 k2;go_enter Tryz.func79,Tryz.ntmps79;go_wp2;go_ret;exact⟨rfl,HP.out.1,HP.out.2,HF.out,(Kx.refl Q z w).setQ (.inr (.inl rfl)) _⟩
theorem ZP (w:World) (lo Q z:Nat) (lv:Value) (m:Nat) (kf:Nat→T) (B:Nat→Nat) (a:Nat) (h:nE w lo Q z lv m kf B a (bA m)) (ha:a≤bA m) (hm:m≤12) (hlo:lo≤w.heap.size) (t:T) (ht:kf m=t):Calls Tryz.prog 124 #[.pointer (some ⟨Q,z,none⟩),.agg #[.int .i64 t.c,.int .i64 t.m.x,.int .i64 t.m.y,.int .i64 t.m.d,.int .i64 t.m.e]] w fun r w'=>r= .returned (.tuple #[])∧∃lv' B',nE w' lo Q z lv' (m+1) kf B' a (bA (m+1))∧(∀j,j<bA m→B' j=B j)∧(∀j,bA m≤j→j<bA (m+1)→w.heap.size≤B' j)∧(∀g,lv'.ownBlock=some g→lv.ownBlock=some g∨w.heap.size≤g)∧Fr (QS Q lv B a (bA m)) w w'∧Kx Q z w w':=by
 obtain⟨i0,hi0,hz0,hz1,hz2⟩:=info_parts vJ;have bo:=aC w (.cells #[.int .i64 t.c,.int .i64 t.m.x,.int .i64 t.m.y,.int .i64 t.m.d,.int .i64 t.m.e] 86)
 have HQ0:=aA (h.below bo);have HF0:Hid (Fr (QS Q lv B a (bA m)) w (w.alloc (.cells #[.int .i64 t.c,.int .i64 t.m.x,.int .i64 t.m.y,.int .i64 t.m.d,.int .i64 t.m.e] 86))):=aO bo
 have HL0:=aA (C5.box w 86 t);have HK0:=aA ((Kx.refl Q z w).next h.lt bo)
 have hQw:Q<w.heap.size:=h.lt;have hlen:((List.range m).map kf).length=m:=by simp
 obtain⟨la,lc,hlv,hout⟩:=aM h.own (by rw[hlen];omega);rw[hlen]at hlv;subst hlv;have hgw:∀g,(Value.slice la m lc).ownBlock=some g→g<w.heap.size:=fun g hg=>(h.own.lt g hg).2
 have hBw:∀j,a≤j→j<bA m→B j<w.heap.size:=fun j j1 j2=>(h.pr j j1 j2).lt;have HGW:=aA hgw
 have HBW:=aA hBw;have hml:(m:Int)≤12:=by omega
 have c0:=(h.below bo).cl;clear h hout hgw hBw;go_enter Tryz.func124,Tryz.ntmps124;go_wp2;clear c0 bo;generalize hw0:w.alloc (.cells #[.int .i64 t.c,.int .i64 t.m.x,.int .i64 t.m.y,.int .i64 t.m.d,.int .i64 t.m.e] 86)=w0 at *;have hs0:w.heap.size≤w0.heap.size:=HF0.out.size
 clear hw0;go_loopw [11] (fun v wr=>∃(i:Nat) (Bi:Nat→Nat),i≤m∧v= .int .i64 (i:Int)∧nE wr lo Q z (.slice la m lc) m kf Bi a (bA m+i)∧(∀j,j<bA m→Bi j=B j)∧(∀j,bA m≤j→j<bA m+i→w.heap.size<Bi j)∧Fr (QS Q (.slice la m lc) B a (bA m)) w wr∧C5 wr w.heap.size t∧Kx Q z w wr) (fun v _=>m-(intOf v).toNat);case atStart=>exact⟨0,B,Nat.zero_le _,rfl,HQ0.out,fun _ _=>rfl,fun j j1 j2=>by omega,HF0.out,HL0.out,HK0.out⟩
 case round=>
  obtain⟨i,Bi,hi,rfl,hQ,hB1,hB2,hF,hL,hKx⟩:=hrel;have HKX:=aA hKx
  have hQr0:Q<wr.heap.size:=hQ.lt;clear hKx;have HB1:=aA hB1
  have HB2:=aA hB2;have HF:=aA hF
  have HQ:=aA hQ;have HLD:=aA hL
  have hsr:w.heap.size≤wr.heap.size:=hF.size;clear hB1 hB2;by_cases hlt:i<m
  ·have hil:(i:Int)<(m:Int):=by omega
   obtain⟨la2,lc2,hlv2,hout2⟩:=aM hQ.own (by rw[hlen];omega);rw[hlen]at hlv2;obtain⟨rfl,rfl⟩:la=la2∧lc=lc2:=by injection hlv2 with e1 e2 e3;exact⟨e1,e3⟩
   rcases hout2.1.2.2 with h0|⟨bb,off,rfl,hblt,hcl⟩
   ·omega
   obtain⟨g0,g1,g2,g3,g4⟩:=hcl i (by rw[hlen];exact hlt);rw[XU kf hlt]at g0 g1 g2 g3 g4;obtain⟨t1,ht1⟩:∃t1,kf i=t1:=⟨_,rfl⟩
   rw[ht1]at g0 g1 g2 g3 g4;have be:=aC wr (.cells #[.int .i64 t1.c,.int .i64 t1.m.x,.int .i64 t1.m.y,.int .i64 t1.m.d,.int .i64 t1.m.e] 86)
   have HS0:=aA ((zD.mk (C5.box wr 86 t1) (hL.below be) (hQ.below be).cl).below (bQ _ _).drew);have hpr:uG kf (bA m+i)=⟨gG t1 (M.both t1.m t.m),gG t (M.both t1.m t.m),i,m⟩:=by unfold uG;rw[oD m i hlt,ht1,ht]
   have HPR:=aA hpr;have HC:=fun(W:World)=>YP W t1 t
   generalize gG t1 (M.both t1.m t.m)=u at HC HPR;generalize gG t (M.both t1.m t.m)=v at HC HPR;have HQd:=aA ((hQ.below be).below (bQ _ _).drew)
   have HFd:=aA ((hF.next be).next (bQ _ _).drew);have HKd:=aA ((HKX.out.next hQr0 be).next (by simp;omega) (bQ _ _).drew)
   have HLd:=aA ((hL.below be).below (bQ _ _).drew);have hsd:w.heap.size≤(wr.alloc (.cells #[.int .i64 t1.c,.int .i64 t1.m.x,.int .i64 t1.m.y,.int .i64 t1.m.d,.int .i64 t1.m.e] 86)).drew.heap.size:=HFd.out.size
   have hBd:∀j,a≤j→j<bA m+i→Bi j<wr.heap.size:=fun j j1 j2=>(hQ.pr j j1 j2).lt;have HBD:=aA hBd
   have hlg:∀g,(Value.slice (some ⟨bb,off,none⟩) m lc).ownBlock=some g→g<wr.heap.size:=fun g hg=>(hQ.own.lt g hg).2;have HLG:=aA hlg
   clear hcl hout2 hlv2 hQ hF hL be hpr hBd hlg;go_wp2_with fail;clear g0 g1 g2 g3 g4;have hS:=HS0.out
   go_region_held3 (fun u=>zD u wr.heap.size w.heap.size Q z t1 t (.slice (some ⟨bb,off,none⟩) m lc)) (first|with_reducible exact hS|with_reducible exact zD.below hS b5|with_reducible exact zD.below (zD.below hS b5) (aC _ _)|with_reducible exact hS8) (first|(go_at_call 143;refine(HC _).mono ?_;rintro e w5 ⟨rfl,b5⟩)|(go_at_call 159;have hP:iF (w5.alloc (.cells #[.int .i64 u.c,.int .i64 u.m.x,.int .i64 u.m.y,.int .i64 u.m.d,.int .i64 u.m.e,.int .i64 v.c,.int .i64 v.m.x,.int .i64 v.m.y,.int .i64 v.m.d,.int .i64 v.m.e,.int .i64 (i:Int),.int .i64 (m:Int),.pointer none] 167)) w5.heap.size (uG kf (bA m+i)) none:=(by rw[HPR.out];exact iF.box w5 167 ⟨u,v,i,m⟩ none);have hsz5:=b5.size;refine(Ba _ lo Q z _ m kf Bi a (bA m+i) ((HQd.out.below b5).below (aC _ _)) (by omega) _ hP (by simp at hsz5;omega) (by simp at hsz5;omega) (fun q=>by have:=HLG.out _ q;simp at hsz5;omega) (fun j j1 j2=>by have:=HBD.out j j1 j2;simp at hsz5;omega)).mono ?_;rintro e w8 ⟨rfl,hq8,hf8,hk8⟩;have hS8:zD w8 wr.heap.size w.heap.size Q z t1 t (.slice (some ⟨bb,off,none⟩) m lc):=zD.fr (zD.below (zD.below hS b5) (aC _ _)) hf8 (fun q=>by rcases q with q|⟨q1,q2⟩;(· omega);(· have:=HBD.out (bA m+i-1) (by omega) (by omega);omega)) (fun q=>by rcases q with q|⟨q1,q2⟩;(· omega);(· rcases Nat.lt_or_ge (bA m+i-1) (bA m)with k|k;(· have:=HB1.out _ k;have:=HBW.out (bA m+i-1) (by omega) k;omega);(· have:=HB2.out _ k (by omega);omega))) hq8.cl))
   have hL8:C5 w8 w.heap.size t:=hS8.c5
   have hF8:Fr (QS Q (.slice (some ⟨bb,off,none⟩) m lc) B a (bA m)) w w8:=((HFd.out.next b5).next (aC _ _)).step hf8 (fun k hk q=>by
    rcases q with q|⟨q1,q2⟩
    ·exact .inl q
    ·rcases Nat.lt_or_ge (bA m+i-1) (bA m)with k'|k'
     ·by_cases e0:i=0
      ·subst e0;exact .inr (.inr ⟨by omega,by rw[q2];exact HB1.out _ k'⟩)
      ·omega
     ·have:=HB2.out _ k' (by omega)
      omega)
   have hs5:w.heap.size<w5.heap.size:=by have:=b5.size;simp at this;omega
   have HK8:=aA (((HKd.out.next (by simp;omega) b5).next (by omega) (aC _ _)).trans hk8);have HQ8:=aA hq8
   have HL8:=aA hL8;have HF8:=aA hF8
   clear hS hS8 hq8 hf8 hk8 hL8 hF8 b5 HC hP hsz5;go_wp2;go_roundw
   case rel=>exact⟨i+1,EW Bi (bA m+i) w5.heap.size,by omega,by go_num,HQ8.out,fun j hj=>by
    unfold EW;rw[if_neg (by omega)];exact HB1.out j hj,fun j j1 j2=>by
    unfold EW;split
    ·exact hs5
    ·exact HB2.out j j1 (by omega),HF8.out,HL8.out,HK8.out⟩
   case measure=>simp[intOf];omega
  ·have hie:i=m:=by omega
   subst hie;have hnl:¬(i:Int)<(i:Int):=by omega
   have bd:Below wr.heap.size wr wr.drew:=(bQ _ _).drew;have ba:=aC wr.drew (.cells #[.int .i64 t.c,.int .i64 t.m.x,.int .i64 t.m.y,.int .i64 t.m.d,.int .i64 t.m.e] 86)
   have hQa:=(hQ.below bd).below ba;have c0:=hQ.cl
   have z0:=hQ.fz.1;obtain⟨l0,l1,l2,l3,l4⟩:=hL;have hOa:((wr.drew).alloc (.cells #[.int .i64 t.c,.int .i64 t.m.x,.int .i64 t.m.y,.int .i64 t.m.d,.int .i64 t.m.e] 86)).ownsRow lo 86 5 (.slice la i lc) i (aE ((List.range i).map kf)):=by
    have:=hQa.own
    rwa[hlen]at this
   have hnQ:¬(Value.slice la i lc).ownBlock=some Q:=fun q=>hQ.ap Q q rfl;have hQr:Q<wr.heap.size:=hQ.lt
   have hnew:=heap_alloc_new wr.drew (.cells #[.int .i64 t.c,.int .i64 t.m.x,.int .i64 t.m.y,.int .i64 t.m.d,.int .i64 t.m.e] 86);have HQa:=aA hQa
   have HFa:=aA ((HF.out.next bd).next ba);have HKa:=aA ((HKX.out.next hQr bd).next (by simp;omega) ba)
   have HOA:=aA hOa;have HNE:=aA hnew
   have hlor:lo≤wr.heap.size:=gW hlo hsr;have cA:=hQa.cl
   have zA:=hQa.fz.1;have HCA:=aA cA
   have HZA:=aA zA;clear hQ hF hQa hOa hnew bd ba cA zA;go_wp2_with fail
   go_region_law (refine step_append_lies _ (by rfl) (.tmp 34) (.tmp 36) 41 (by rfl) lo 86 i0 _ 5 40 Tryz.underlying41 hi0 hz0 hz1 hz2 rfl (by omega) _ i (aE ((List.range i).map kf)) (by rfl) HOA.out ⟨wr.heap.size,0,none⟩ 1 1 (aE [t]) (by rfl) (by rw[bJ];rfl) (by rw[dX];exact World.news_of_block HNE.out) (fK _) (by omega) (by unfold maxLen;omega) (by omega) (by simp;omega) _ rfl ?_;intro g0 cap0 w9 hown hgrow hat hlt9;have c9:=(IG (b:=Q) (o:=z) hgrow (by simp;omega) hnQ).trans HCA.out;have z9:=(xY (b:=Q) (o:=z) hgrow (by simp;omega) hnQ).trans HZA.out)
   all_goals(
    clear c9 z9 l0 l1 l2 l3 l4 c0 z0;have HOWN:=aA hown
    have HGR:=aA hgrow;have HAT:=aA hat
    clear hown hgrow hat hlt9;go_wp2
    go_end0
    have hl':∀g,(Value.slice (some ⟨g0,0,none⟩) (i+1) cap0).ownBlock=some g→(Value.slice la i lc).ownBlock=some g∨g=wr.heap.size+1:=fun g hg=>by
     have e:g0=g:=by simpa[Value.ownBlock]using hg
     subst e;exact HAT.out.imp id (fun q=>by rw[q];simp)
    have ho:w9.ownsRow lo 86 5 (.slice (some ⟨g0,0,none⟩) (i+1) cap0) ((List.range (i+1)).map kf).length (aE ((List.range (i+1)).map kf)):=by have h:=HOWN.out;rw[←ht,←cK,←QX]at h;rw[show((List.range (i+1)).map kf).length=i+1 by simp];exact h
    refine⟨rfl,.slice (some ⟨g0,0,none⟩) (i+1) cap0,Bi,HQa.out.lead HGR.out rfl ho (fun g hg=>by simpa using hl' g hg),HB1.out,fun j j1 j2=>Nat.le_of_lt (HB2.out j j1 j2),fun g hg=>(hl' g hg).imp id (fun q=>by omega),?_,?_⟩
    ·exact(HFa.out.grown HGR.out (fun g e hk=>.inr (.inl e))).set (fun _=>.inl rfl)
    ·exact(HKa.out.grownK HGR.out (by simp;omega) (fun q=>hnQ q)).setQ (.inl rfl) _)
end Go.Proofs.YtelkehjdfcoeiaaGreat
