/-
  The proof of what is left of a pair: (*impl.grbMaking).proofOf.
-/
import Derived.Test.YtdidlcjhodejjaaGreatMMaa
set_option maxHeartbeats 16000000
set_option maxRecDepth 100000
namespace Go.Proofs.YtdidlcjhodejjaaGreat
open Go.RowKit Go.Deep Go.Joins
set_option linter.unusedVariables false
set_option linter.unusedSimpArgs false
abbrev QI (u:World) (pb z:Nat) (t:T) (Mb:Nat) (pv:Value) (x:Nat) (i:Int) (prb y:Nat) (rv:Value):Prop:=
 u.cell? ⟨pb,z,none⟩=some (.int .i64 t.c)∧u.cell? ⟨pb,z+1,none⟩=some (.int .i64 t.m.x)∧u.cell? ⟨pb,z+2,none⟩=some (.int .i64 t.m.y)∧u.cell? ⟨pb,z+3,none⟩=some (.int .i64 t.m.d)∧u.cell? ⟨pb,z+4,none⟩=some (.int .i64 t.m.e)∧u.cell? ⟨Mb,1,none⟩=some pv∧u.cell? ⟨pb,x,none⟩=some (.int .i64 i)∧u.cell? ⟨prb,y,none⟩=some rv
theorem QI.below {u u':World} {pb z:Nat} {t:T} {Mb:Nat} {pv:Value} {x:Nat} {i:Int} {prb y:Nat} {rv:Value} (h:QI u pb z t Mb pv x i prb y rv) (hb:Below u.heap.size u u'):QI u' pb z t Mb pv x i prb y rv:=by
 obtain⟨a0,a1,a2,a3,a4,b0,c0,d0⟩:=h;have l1:=cX u _ a0
 have l2:=cX u _ b0;have l3:=cX u _ d0
 exact⟨(hb.cell (p:=⟨pb,z,none⟩) l1).trans a0,(hb.cell (p:=⟨pb,z+1,none⟩) l1).trans a1,(hb.cell (p:=⟨pb,z+2,none⟩) l1).trans a2,(hb.cell (p:=⟨pb,z+3,none⟩) l1).trans a3,(hb.cell (p:=⟨pb,z+4,none⟩) l1).trans a4,(hb.cell (p:=⟨Mb,1,none⟩) l2).trans b0,(hb.cell (p:=⟨pb,x,none⟩) l1).trans c0,(hb.cell (p:=⟨prb,y,none⟩) l3).trans d0⟩
theorem Nf:(Tryz.prog.info? 192).map (fun i=>(i.zero,i.size,i.bytes))=some (some (.agg #[.slice none 0 0,.slice none 0 0]),2,48):=by kernel_rfl
def Ed (qa:Nat→Option Addr) (qs:Nat→List T) (qc:Nat→Nat) (ra:Nat→Option Addr) (g:Nat) (rc:Nat→Nat):Nat→List Value
 |0=>[]
 |t+1=>Ed qa qs qc ra g rc t++[.slice (qa t) (qs t).length (qc t),.slice (ra t) g (rc t)]
theorem UY (qa:Nat→Option Addr) (qs:Nat→List T) (qc:Nat→Nat) (ra:Nat→Option Addr) (g:Nat) (rc:Nat→Nat):∀t,(Ed qa qs qc ra g rc t).length=t*2
 |0=>rfl
 |t+1=>by show(Ed qa qs qc ra g rc t++_).length=_;rw[List.length_append,UY qa qs qc ra g rc t];simp;omega
theorem Ee {qa:Nat→Option Addr} {qs:Nat→List T} {qc:Nat→Nat} {ra:Nat→Option Addr} {g:Nat} {rc:Nat→Nat}:∀(n t:Nat),t<n→(Ed qa qs qc ra g rc n)[t*2]? =some (.slice (qa t) (qs t).length (qc t))∧(Ed qa qs qc ra g rc n)[t*2+1]? =some (.slice (ra t) g (rc t))
 |0,t,h=>by omega
 |n+1,t,h=>by
  have hl:=UY qa qs qc ra g rc n;show(Ed qa qs qc ra g rc n++_)[t*2]? =_∧(Ed qa qs qc ra g rc n++_)[t*2+1]? =_
  by_cases e:t=n
  ·subst e;rw[List.getElem?_append_right (by omega),List.getElem?_append_right (by omega),hl];simp
  ·obtain⟨h1,h2⟩:=Ee (qa:=qa) (qs:=qs) (qc:=qc) (ra:=ra) (g:=g) (rc:=rc) n t (by omega);rw[List.getElem?_append_left (by omega),List.getElem?_append_left (by omega)];exact⟨h1,h2⟩
theorem ZM (a b:Option Addr) (n m c d:Nat):∀u∈[Value.slice a n c,Value.slice b m d],u.oneCell'=true:=fun u hu=>by
 simp at hu;rcases hu with h|h<;>(subst h;rfl)
theorem SO {w:World} {lo:Nat} {v:Value} {M:Nat} {qa:Nat→Option Addr} {qc:Nat→Nat} {ra:Nat→Option Addr} {rc:Nat→Nat} {rad:Nat→Nat→Option Addr} {rcp:Nat→Nat→Nat} {g:Nat} {qs:Nat→List T} {Q:Nat→Nat→List T} (h:w.ownsRow lo 192 2 v M (Ed qa qs qc ra g rc M)) (hM:M≤100) (hq:∀t,t<M→RL w (qa t) (qc t) (qs t)) (hr:∀t,t<M→cZ w (ra t) g (rc t) (rad t) (lN (Q t)) (rcp t) (fN (Q t))):∃oa oc,v= .slice oa M oc∧LW w oa M oc qa qc ra rc rad rcp g qs Q:=by
 rcases h.2 with⟨hv,h0⟩|⟨b,cap,cur,hv,hlo,hg,hnc,_⟩
 ·exact⟨none,0,by rw[hv,h0],by omega,hM,.inl h0,hq,hr⟩
 ·have hr':=h;rw[hv]at hr';refine⟨some ⟨b,0,none⟩,cap,hv,hnc,hM,.inr ⟨b,0,rfl,(hr'.lt b rfl).2,fun t ht=>?_⟩,hq,hr⟩;obtain⟨e1,e2⟩:=Ee (qa:=qa) (qs:=qs) (qc:=qc) (ra:=ra) (g:=g) (rc:=rc) M t ht;exact⟨by rw[Nat.zero_add,hr'.cellAt (t*2) (by omega),e1],by rw[Nat.zero_add,hr'.cellAt (t*2+1) (by omega),e2]⟩
def LR {α:Type} (x0:α) (f:Nat→α):Nat→α
 |0=>x0
 |t+1=>f t
theorem Re (w:World) (U:Obj) (y:TypeId) (v0 v1:Value):((w.alloc U).alloc (.cells #[v0,v1] y)).drew.cell? ⟨w.heap.size+1,0,none⟩=some v0∧((w.alloc U).alloc (.cells #[v0,v1] y)).drew.cell? ⟨w.heap.size+1,1,none⟩=some v1:=by
 have:=LU (w.alloc U) y v0 v1
 rwa[World.size_alloc]at this
theorem Rf (w:World) (U:Obj) (y:TypeId) (v0 v1:Value):((w.alloc (.cells #[v0,v1] y)).alloc U).drew.cell? ⟨w.heap.size,0,none⟩=some v0∧((w.alloc (.cells #[v0,v1] y)).alloc U).drew.cell? ⟨w.heap.size,1,none⟩=some v1:=by
 have h:=LU w y v0 v1;have b:=aC (w.alloc (.cells #[v0,v1] y)) U
 exact⟨(b.cell (p:=⟨w.heap.size,0,none⟩) (by simp)).trans h.1,(b.cell (p:=⟨w.heap.size,1,none⟩) (by simp)).trans h.2⟩
theorem Rg (w:World) (X:Obj) (t:T):RL ((w.alloc X).alloc (.cells #[.int .i64 t.c,.int .i64 t.m.x,.int .i64 t.m.y,.int .i64 t.m.d,.int .i64 t.m.e] 42)).drew (some ⟨w.heap.size+1,0,none⟩) 1 [t]:=by have:=gR (w.alloc X) t;rw[World.size_alloc]at this;exact RL.below this (bL _ _).drew
theorem Ex (w:World) (Mb pb:Nat) (p:Pr) (nx:Option Addr) (hp:jK w pb p nx) (g m:Nat) (hg:g≤12) (hm:m≤12) (pa:Option Addr) (pc:Nat) (hMb:w.cell? ⟨Mb,1,none⟩=some (.slice pa m pc)) (A:Nat→Option Addr) (C:Nat→Nat) (AD:Nat→Nat→Option Addr) (CP:Nat→Nat→Nat) (P:Nat→Nat→List T) (hP:R3 w pa m pc g A C AD CP P) (hi:p.i<m) (hk:p.k<m) (ta:Option Addr) (tc:Nat) (tad:Nat→Option Addr) (tcp:Nat→Nat) (q:Nat→List T) (hq:cZ w ta m tc tad (lN q) tcp (fN q)) {E:Option (Nat→List T)} (hE:kW (fun j=>UZ [p.t1] (P p.i) (NY p.t2 q) (YN P p.k) j (m+1)) g=E):Calls Tryz.prog 162 #[.pointer (some ⟨Mb,0,none⟩),.pointer (some ⟨pb,0,none⟩),.slice ta m tc] w (Tm w g E):=by
 obtain⟨i2,hi2,hx0,hx1,hx2⟩:=info_parts Nf;obtain⟨prb,poff,rfl,hprb,hpcl⟩:=hP.2.2.1.resolve_left (by omega);obtain⟨tb,toff,rfl,htb,htcl⟩:=hq.2.2.1.resolve_left (by omega);have hil:(p.i:Int)<(m:Int):=by omega
 have hkl:(p.k:Int)<(m:Int):=by omega
 have hi0:(0:Int)≤(p.i:Int):=by omega
 have hk0:(0:Int)≤(p.k:Int):=by omega
 have hml:(m:Int)≤12:=by omega
 have dr:Below w.heap.size w w.drew:=(bL _ _).drew;have HS1:Hid (QI w.drew pb 0 p.t1 Mb (.slice (some ⟨prb,poff,none⟩) m pc) 10 (p.i:Int) prb (poff+p.i) (.slice (A p.i) g (C p.i))):=QI.below (u:=w) ⟨hp.a0,hp.a1,hp.a2,hp.a3,hp.a4,hMb,hp.ci,hpcl p.i hi⟩ dr
 have HS2:Hid (QI w pb 5 p.t2 Mb (.slice (some ⟨prb,poff,none⟩) m pc) 11 (p.k:Int) prb (poff+p.k) (.slice (A p.k) g (C p.k))):=⟨hp.b0,hp.b1,hp.b2,hp.b3,hp.b4,hMb,hp.ck,hpcl p.k hk⟩
 have HP:=aA hP;have HQ:=aA hq
 have HE:=aA hE;have HTC:=aA htcl
 have HPC:=aA hpcl;have HMB:=aA hMb
 have hMl:Mb<w.heap.size:=cX w _ hMb;clear hp hP hq hE htcl hpcl hMb dr;go_enter Tryz.func162,Tryz.ntmps162;go_wp2_with fail;refine Code.wp_mono (Q:=NoPanic fun e a z=>e=Exit.normal∧∃(g7:Nat) (fa:Option Addr) (x11 x12 x13 x14 x15 x16 x17 x18 x19 x20 x21 x22 x23 x24 x25 x26 x27 x28:Value),a={tmps:=#[.pointer (some ⟨Mb,0,none⟩),.pointer (some ⟨pb,0,none⟩),.slice (some ⟨tb,toff,none⟩) m tc,undef,undef,undef,.slice none 0 0,.pointer (some ⟨g7,0,none⟩),undef,undef,undef,x11,x12,x13,x14,x15,x16,x17,x18,x19,x20,x21,x22,x23,x24,x25,x26,x27,x28,undef,undef,undef,undef,undef,undef,undef,undef,undef,undef,undef,undef,undef,undef,undef,undef,undef,undef,undef,undef,undef,undef,undef,undef,undef,undef,undef,undef,undef,undef,undef,undef,undef,undef,undef,undef,undef,undef,undef,undef,undef,undef,undef],defers:=[]}∧z.cell? ⟨g7,0,none⟩=some (.slice fa 1 1)∧z.cell? ⟨g7,1,none⟩=some (.slice (A p.i) g (C p.i))∧RL z fa 1 [p.t1]∧Below w.heap.size w z) ?_ ?_;rotate_left
 ·have hS:=HS1.out
  go_region_held3 (fun x=>QI x pb 0 p.t1 Mb (.slice (some ⟨prb,poff,none⟩) m pc) 10 (p.i:Int) prb (poff+p.i) (.slice (A p.i) g (C p.i))) (first|with_reducible exact hS|with_reducible exact QI.below hS (aC _ _)|with_reducible exact QI.below (QI.below hS (aC _ _)) (aC _ _)) (fail)
  ·exact NoPanic.normal ⟨rfl,_,_,_,_,_,_,_,_,_,_,_,_,_,_,_,_,_,_,_,_,rfl,(Re w _ 192 _ _).1,(Re w _ 192 _ _).2,RL.below (RL.below (gR w p.t1) (aC _ _)) (bL _ _).drew,(aR w _ _).drew⟩
  ·exact NoPanic.normal ⟨rfl,_,_,_,_,_,_,_,_,_,_,_,_,_,_,_,_,_,_,_,_,rfl,(Rf w _ 192 _ _).1,(Rf w _ 192 _ _).2,Rg w _ p.t1,(aR w _ _).drew⟩
 ·rintro e a z hqz;obtain⟨rfl,g7,fa,x11,x12,x13,x14,x15,x16,x17,x18,x19,x20,x21,x22,x23,x24,x25,x26,x27,x28,rfl,c70,c71,hrl7,hbz⟩:=NoPanic.imp _ _ _ hqz;have dz:Below z.heap.size z z.drew:=(bL _ _).drew
  have HBZ:=aA hbz;have HBZd:=aA (aB hbz dz)
  have HRL7:=aA hrl7;have H7:=aA (And.intro c70 c71)
  have hS:=QI.below (QI.below HS2.out hbz) dz;have hg7:g7<z.heap.size:=cX z _ c70
  have hwz:w.heap.size≤z.heap.size:=hbz.size;clear hqz c70 c71 hrl7 hbz dz;go_wp2_with fail
  go_region_held3 (fun x=>QI x pb 5 p.t2 Mb (.slice (some ⟨prb,poff,none⟩) m pc) 11 (p.k:Int) prb (poff+p.k) (.slice (A p.k) g (C p.k))) (first|with_reducible exact hS|with_reducible exact QI.below hS (aC _ _)|with_reducible exact QI.below (QI.below hS (aC _ _)) (aC _ _)) (fail)
  obtain⟨z2,hz2⟩:∃z2,z2=z.alloc (.cells #[.int .i64 p.t2.c,.int .i64 p.t2.m.x,.int .i64 p.t2.m.y,.int .i64 p.t2.m.d,.int .i64 p.t2.m.e] 42):=⟨_,rfl⟩
  have bz2:Below z.heap.size z z2:=by rw[hz2];exact aC z _
  have hs2:z2.heap.size=z.heap.size+1:=by rw[hz2];simp
  have HOW0:=aA (World.ownsRow_lit (base:=z2.heap.size) (e:=192) (size:=2) z2 #[.slice (some ⟨z.heap.size,0,none⟩) 1 1,.slice (A p.k) g (C p.k)] 1 (Nat.le_refl _) (by unfold maxLen;omega) rfl);have HRL2:Hid (RL z2 (some ⟨z.heap.size,0,none⟩) 1 [p.t2]):=by rw[hz2];exact gR z p.t2
  have HBZ2:=aA (aB HBZ.out bz2);have HBz2:=aA bz2
  have HZ2:=aA hz2;have hs2':z.heap.size<z2.heap.size:=by omega
  have HB0:=aA ((aC z2 (.cells #[.slice (some ⟨z.heap.size,0,none⟩) 1 1,.slice (A p.k) g (C p.k)] 192)).drew);have HOW:Hid (((z.alloc (.cells #[.int .i64 p.t2.c,.int .i64 p.t2.m.x,.int .i64 p.t2.m.y,.int .i64 p.t2.m.d,.int .i64 p.t2.m.e] 42)).alloc (.cells #[.slice (some ⟨z.heap.size,0,none⟩) 1 1,.slice (A p.k) g (C p.k)] 192)).drew.ownsRow z2.heap.size 192 2 (.slice (some ⟨z.heap.size+1,0,none⟩) 1 1) (0+1) (Ed (LR (some ⟨z.heap.size,0,none⟩) tad) (NY p.t2 q) (LR 1 tcp) (LR (A p.k) A) g (LR (C p.k) C) (0+1))):=by rw[←HZ2.out,←hs2];exact dC HOW0.out (bL _ _).drew
  have HB00:Hid (Below z2.heap.size z2 ((z.alloc (.cells #[.int .i64 p.t2.c,.int .i64 p.t2.m.x,.int .i64 p.t2.m.y,.int .i64 p.t2.m.d,.int .i64 p.t2.m.e] 42)).alloc (.cells #[.slice (some ⟨z.heap.size,0,none⟩) 1 1,.slice (A p.k) g (C p.k)] 192)).drew):=by rw[←HZ2.out];exact HB0.out
  clear hS bz2 hz2 hs2 HOW0 HB0 HS1 HS2;go_wp2;go_loopw [8,50] (fun ov tt wr=>∃t:Nat,t≤m∧tt= .int .i64 (t:Int)∧Below z2.heap.size z2 wr∧wr.ownsRow z2.heap.size 192 2 ov (t+1) (Ed (LR (some ⟨z.heap.size,0,none⟩) tad) (NY p.t2 q) (LR 1 tcp) (LR (A p.k) A) g (LR (C p.k) C) (t+1))) (fun _ tt _=>m-(intOf tt).toNat);case atStart=>exact⟨0,Nat.zero_le _,rfl,HB00.out,HOW.out⟩
  case round=>
   obtain⟨t,ht,rfl,hB,hown⟩:=hrel;have HB:=aA hB
   have HO:=aA hown;have hBw:=aB HBZ2.out hB
   have HBW:=aA hBw;have hsr:z2.heap.size≤wr.heap.size:=hB.size
   by_cases htm:t<m
   ·have htl:(t:Int)<(m:Int):=by omega
    have hmax:t+1+1≤maxLen:=by unfold maxLen;omega
    have d0:wr.cell? ⟨tb,toff+t,none⟩=some (.slice (tad t) (q t).length (tcp t)):=(hBw.cell (p:=⟨tb,toff+t,none⟩) htb).trans (HTC.out t htm);have d1:wr.cell? ⟨Mb,1,none⟩=some (.slice (some ⟨prb,poff,none⟩) m pc):=(hBw.cell (p:=⟨Mb,1,none⟩) hMl).trans HMB.out
    have d2:wr.cell? ⟨prb,poff+t,none⟩=some (.slice (A t) g (C t)):=(hBw.cell (p:=⟨prb,poff+t,none⟩) hprb).trans (HPC.out t htm);clear hB hown hBw;go_wp2_with (at_builtin;refine wpList_append_lies _ rfl (.tmp 55) (.tmp 66) 193 rfl z2.heap.size 192 i2 _ 2 48 Tryz.underlying193 hi2 hx0 hx1 hx2 rfl (by omega) _ (t+1) (Ed (LR (some ⟨z.heap.size,0,none⟩) tad) (NY p.t2 q) (LR 1 tcp) (LR (A p.k) A) g (LR (C p.k) C) (t+1)) rfl (HO.out.alloc _) ⟨wr.heap.size,0,none⟩ 1 1 [.slice (tad t) (q t).length (tcp t),.slice (A t) g (C t)] rfl rfl (World.news_of_block (heap_alloc_new wr _)) (ZM _ _ _ _ _ _) (by omega) hmax (by omega) (by simp;omega) _ rfl ?_;intro g1 cap1 w8 hown2 hgrow2 hat2 hlt2;have HO8:=aA hown2;have HB8:=aA ((HB.out.alloc HB.out.size _).grown hgrow2 (by simp;omega) (fun k e=>(HO.out.lt k e).1));clear hown2 hgrow2 hat2 hlt2);go_roundw;case rel=>exact⟨t+1,by omega,by go_num,HB8.out,HO8.out⟩
    case measure=>simp[intOf];omega
   ·have htl:¬(t:Int)<(m:Int):=by omega
    have hte:t=m:=by omega
    subst hte;have hq9:∀x,x<t+1→RL wr (LR (some ⟨z.heap.size,0,none⟩) tad x) (LR 1 tcp x) (NY p.t2 q x):=fun x hx=>by
     cases x with
     |zero=>exact HRL2.out.below hB
     |succ x=>exact(HQ.out.2.2.2 x (by omega)).below hBw
    have hr9:∀x,x<t+1→cZ wr (LR (A p.k) A x) g (LR (C p.k) C x) (LR (AD p.k) AD x) (lN (YN P p.k x)) (LR (CP p.k) CP x) (fN (YN P p.k x)):=fun x hx=>by
     cases x with
     |zero=>exact(HP.out.2.2.2 p.k hk).below hBw
     |succ x=>exact(HP.out.2.2.2 x (by omega)).below hBw
    obtain⟨oa,oc,rfl,hPa⟩:=SO hown (by omega) hq9 hr9;have hz9:=aB HBz2.out hB
    have c0:=(hz9.cell (p:=⟨g7,0,none⟩) hg7).trans H7.out.1;have c1:=(hz9.cell (p:=⟨g7,1,none⟩) hg7).trans H7.out.2
    have hcall:=XM wr fa 1 [p.t1] (HRL7.out.below hz9) (A p.i) g (C p.i) (AD p.i) (CP p.i) (P p.i) ((HP.out.2.2.2 p.i hi).below hBw) hg oa (t+1) oc _ _ _ _ _ _ _ _ hPa HE.out;have HCL:=aA hcall
    clear hB hown hBw hq9 hr9 hPa hz9 hcall;go_wp2_with fail;refine HCL.out.mono ?_;rintro e w9 ⟨b9,h9⟩;have HB9:=aA (aB HBW.out b9)
    have hs9:w.heap.size≤wr.heap.size:=HBW.out.size;clear b9 HCL;rcases h9 with⟨R,xa,xc,xad,xcp,xlo,xRb,xB,rfl,rfl,hxl,hxo⟩|⟨rfl,rfl⟩
    ·have HXO:=aA hxo;have HXL:=aA hxl
     clear hxo hxl;go_wp2;go_ret;exact⟨HB9.out,.inl ⟨R,xa,xc,xad,xcp,xlo,xRb,xB,rfl,rfl,jZ hs9 HXL.out,HXO.out⟩⟩
    ·exact⟨rfl,HB9.out,.inr ⟨rfl,rfl⟩⟩
def Kx (Q z:Nat) (w w':World):Prop:=∀x,x≠z→x≠z+1→x≠z+2→w'.cell? ⟨Q,x,none⟩=w.cell? ⟨Q,x,none⟩∧w'.frozen? ⟨Q,x,none⟩=w.frozen? ⟨Q,x,none⟩
theorem Kx.refl (Q z:Nat) (w:World):Kx Q z w w:=fun _ _ _ _=>⟨rfl,rfl⟩
theorem Kx.trans {Q z:Nat} {a b c:World} (h:Kx Q z a b) (k:Kx Q z b c):Kx Q z a c:=fun x h1 h2 h3=>⟨(k x h1 h2 h3).1.trans (h x h1 h2 h3).1,(k x h1 h2 h3).2.trans (h x h1 h2 h3).2⟩
theorem Kx.next {Q z:Nat} {a b c:World} (h:Kx Q z a b) (hQ:Q<b.heap.size) (hb:Below b.heap.size b c):Kx Q z a c:=h.trans fun x _ _ _=>⟨hb.cell (p:=⟨Q,x,none⟩) hQ,hb.frozen (p:=⟨Q,x,none⟩) hQ⟩
theorem Kx.setQ {Q z:Nat} {a b:World} (h:Kx Q z a b) {y:Nat} (hy:y=z∨y=z+1∨y=z+2) (v:Value):Kx Q z a (b.setCell ⟨Q,y,none⟩ v):=h.trans fun x h1 h2 h3=>⟨aS (tW (by omega)),World.frozen?_setCell ..⟩
theorem Kx.setO {Q z:Nat} {a b:World} (h:Kx Q z a b) {k y:Nat} (hk:k≠Q) (v:Value):Kx Q z a (b.setCell ⟨k,y,none⟩ v):=h.trans fun x h1 h2 h3=>⟨aS (fun e=>hk (by injection e)),World.frozen?_setCell ..⟩
theorem Kx.grownK {Q z:Nat} {a b c:World} (h:Kx Q z a b) {row:Option Nat} (hg:b.grownBy c row) (hQ:Q<b.heap.size) (hr:¬row=some Q):Kx Q z a c:=h.trans fun x _ _ _=>⟨JE (b:=Q) (o:=x) hg hQ hr,yE (b:=Q) (o:=x) hg hQ hr⟩
theorem Kx.fr {Q z:Nat} {a b c:World} (h:Kx Q z a b) {P:Nat→Prop} (hf:Fr P b c) (hQ:Q<b.heap.size) (hp:¬P Q):Kx Q z a c:=h.trans fun x _ _ _=>⟨hf.cell hQ hp,hf.frozen hQ hp⟩
theorem Rl (w:World) (lo Q z:Nat) (lv:Value) (m:Nat) (kf:Nat→T) (B:Nat→Nat) (a e:Nat) (h:lQ w lo Q z lv m kf B a e) (hae:a≤e) (b:Nat) (hb:jK w b (oW kf e) none) (hlo:lo≤b) (hbQ:b≠Q) (hbl:lv.ownBlock≠some b) (hbB:∀j,a≤j→j<e→B j≠b):Calls Tryz.prog 121 #[.pointer (some ⟨Q,z,none⟩),.pointer (some ⟨b,0,none⟩)] w fun r w'=>r= .returned (.tuple #[])∧lQ w' lo Q z lv m kf (AE B e b) a (e+1)∧Fr (fun k=>k=Q∨(a<e∧k=B (e-1))) w w'∧Kx Q z w w':=by
 have HP:=aA (h.push hae hb hlo hbQ hbl hbB);obtain⟨tv,ht,ht2⟩:=h.ct;have c0:=h.cf
 have z1:=h.fz.2.1;have z2:=h.fz.2.2
 by_cases hlt:a<e
 ·obtain rfl:=ht2 hlt;have e0:qF B a e=some ⟨B a,0,none⟩:=if_pos hlt
  rw[e0]at c0;have hp:=h.pr (e-1) (by omega) (by omega)
  have k1:=hp.nx;have k2:=hp.fz
  have hne:B (e-1)≠Q:=(h.bk (e-1) (by omega) (by omega)).2.1;have HQ:=HP.out
  rw[if_pos hlt]at HQ;have HF:Hid (Fr (fun k=>k=Q∨(a<e∧k=B (e-1))) w ((w.setCell ⟨B (e-1),12,none⟩ (.pointer (some ⟨b,0,none⟩))).setCell ⟨Q,z+2,none⟩ (.pointer (some ⟨b,0,none⟩)))):=((Fr.refl _ w).set (fun _=>.inr ⟨hlt,rfl⟩)).set (fun _=>.inl rfl)
  have HK:Hid (Kx Q z w ((w.setCell ⟨B (e-1),12,none⟩ (.pointer (some ⟨b,0,none⟩))).setCell ⟨Q,z+2,none⟩ (.pointer (some ⟨b,0,none⟩)))):=((Kx.refl Q z w).setO hne _).setQ (.inr (.inr rfl)) _;have HQ2:=aA HQ
  obtain⟨L,hL⟩:∃L,B (e-1)=L:=⟨_,rfl⟩
  rw[hL]at ht k1 k2 hne;have HL:=aA hL
  clear h hp HQ ht2 e0 HP hb hL hbB;go_enter Tryz.func121,Tryz.ntmps121;go_wp2
  go_end0
  refine⟨rfl,?_⟩;have h1:=HQ2.out
  have h2:=HF.out;have h3:=HK.out
  rw[HL.out]at h1;rw[←HL.out]at h1⊢;exact⟨h1,h2,h3⟩
 ·have e0:qF B a e=none:=if_neg hlt;rw[e0]at c0;have HQ:=HP.out
  rw[if_neg hlt]at HQ;have HF:Hid (Fr (fun k=>k=Q∨(a<e∧k=B (e-1))) w ((w.setCell ⟨Q,z+1,none⟩ (.pointer (some ⟨b,0,none⟩))).setCell ⟨Q,z+2,none⟩ (.pointer (some ⟨b,0,none⟩)))):=((Fr.refl _ w).set (fun _=>.inl rfl)).set (fun _=>.inl rfl)
  have HQ2:=aA HQ;clear h HQ ht2 e0 HP hb hbB;go_enter Tryz.func121,Tryz.ntmps121;go_wp2
  go_end0
  exact⟨rfl,HQ2.out,HF.out,((Kx.refl Q z w).setQ (.inr (.inl rfl)) _).setQ (.inr (.inr rfl)) _⟩
theorem Tg (w:World) (lo Q z:Nat) (lv:Value) (m:Nat) (kf:Nat→T) (B:Nat→Nat) (a e:Nat) (h:lQ w lo Q z lv m kf B a e) (hlt:a<e):Calls Tryz.prog 80 #[.pointer (some ⟨Q,z,none⟩)] w fun r w'=>r= .returned (.pointer (some ⟨B a,0,none⟩))∧lQ w' lo Q z lv m kf B (a+1) e∧jK w' (B a) (oW kf a) (qF B (a+1) e)∧Fr (fun k=>k=Q) w w'∧Kx Q z w w':=by
 have HP:=aA (h.pop hlt);have c0:=h.cf
 have z1:=h.fz.2.1;have e0:qF B a e=some ⟨B a,0,none⟩:=if_pos hlt
 rw[e0]at c0;have hp:=h.pr a (Nat.le_refl _) hlt
 have k1:=hp.nx;have k2:(if a+1<e then some (⟨B (a+1),0,none⟩:Addr)else none)=qF B (a+1) e:=rfl
 rw[k2]at k1;have hne:B a≠Q:=(h.bk a (Nat.le_refl _) hlt).2.1
 have HF:Hid (Fr (fun k=>k=Q) w (w.setCell ⟨Q,z+1,none⟩ (.pointer (qF B (a+1) e)))):=(Fr.refl _ w).set (fun _=>rfl);clear h hp e0 k2;go_enter Tryz.func80,Tryz.ntmps80;go_wp2;go_ret;exact⟨rfl,HP.out.1,HP.out.2,HF.out,(Kx.refl Q z w).setQ (.inr (.inl rfl)) _⟩
theorem Py (w:World) (lo Q z:Nat) (lv:Value) (m:Nat) (kf:Nat→T) (B:Nat→Nat) (a:Nat) (h:lQ w lo Q z lv m kf B a (aZ m)) (ha:a≤aZ m) (hm:m≤12) (hlo:lo≤w.heap.size) (t:T) (ht:kf m=t):Calls Tryz.prog 77 #[.pointer (some ⟨Q,z,none⟩),.agg #[.int .i64 t.c,.int .i64 t.m.x,.int .i64 t.m.y,.int .i64 t.m.d,.int .i64 t.m.e]] w fun r w'=>r= .returned (.tuple #[])∧∃lv' B',lQ w' lo Q z lv' (m+1) kf B' a (aZ (m+1))∧(∀j,j<aZ m→B' j=B j)∧(∀j,aZ m≤j→j<aZ (m+1)→w.heap.size≤B' j)∧(∀g,lv'.ownBlock=some g→lv.ownBlock=some g∨w.heap.size≤g)∧Fr (QS Q lv B a (aZ m)) w w'∧Kx Q z w w':=by
 obtain⟨i0,hi0,hz0,hz1,hz2⟩:=info_parts uG;have bo:=aC w (.cells #[.int .i64 t.c,.int .i64 t.m.x,.int .i64 t.m.y,.int .i64 t.m.d,.int .i64 t.m.e] 42)
 have HQ0:=aA (h.below bo);have HF0:Hid (Fr (QS Q lv B a (aZ m)) w (w.alloc (.cells #[.int .i64 t.c,.int .i64 t.m.x,.int .i64 t.m.y,.int .i64 t.m.d,.int .i64 t.m.e] 42))):=bA bo
 have HL0:=aA (C5.box w 42 t);have HK0:=aA ((Kx.refl Q z w).next h.lt bo)
 have hQw:Q<w.heap.size:=h.lt;have hlen:((List.range m).map kf).length=m:=by simp
 obtain⟨la,lc,hlv,hout⟩:=aH h.own (by rw[hlen];omega);rw[hlen]at hlv;subst hlv;have hgw:∀g,(Value.slice la m lc).ownBlock=some g→g<w.heap.size:=fun g hg=>(h.own.lt g hg).2
 have hBw:∀j,a≤j→j<aZ m→B j<w.heap.size:=fun j j1 j2=>(h.pr j j1 j2).lt;have HGW:=aA hgw
 have HBW:=aA hBw;have hml:(m:Int)≤12:=by omega
 have c0:=(h.below bo).cl;clear h hout hgw hBw;go_enter Tryz.func77,Tryz.ntmps77;go_wp2;clear c0 bo;generalize hw0:w.alloc (.cells #[.int .i64 t.c,.int .i64 t.m.x,.int .i64 t.m.y,.int .i64 t.m.d,.int .i64 t.m.e] 42)=w0 at *;have hs0:w.heap.size≤w0.heap.size:=HF0.out.size
 clear hw0;go_loopw [11] (fun v wr=>∃(i:Nat) (Bi:Nat→Nat),i≤m∧v= .int .i64 (i:Int)∧lQ wr lo Q z (.slice la m lc) m kf Bi a (aZ m+i)∧(∀j,j<aZ m→Bi j=B j)∧(∀j,aZ m≤j→j<aZ m+i→w.heap.size<Bi j)∧Fr (QS Q (.slice la m lc) B a (aZ m)) w wr∧C5 wr w.heap.size t∧Kx Q z w wr) (fun v _=>m-(intOf v).toNat);case atStart=>exact⟨0,B,Nat.zero_le _,rfl,HQ0.out,fun _ _=>rfl,fun j j1 j2=>by omega,HF0.out,HL0.out,HK0.out⟩
 case round=>
  obtain⟨i,Bi,hi,rfl,hQ,hB1,hB2,hF,hL,hKx⟩:=hrel;have HKX:=aA hKx
  have hQr0:Q<wr.heap.size:=hQ.lt;clear hKx;have HB1:=aA hB1
  have HB2:=aA hB2;have HF:=aA hF
  have HQ:=aA hQ;have HLD:=aA hL
  have hsr:w.heap.size≤wr.heap.size:=hF.size;clear hB1 hB2;by_cases hlt:i<m
  ·have hil:(i:Int)<(m:Int):=by omega
   obtain⟨la2,lc2,hlv2,hout2⟩:=aH hQ.own (by rw[hlen];omega);rw[hlen]at hlv2;obtain⟨rfl,rfl⟩:la=la2∧lc=lc2:=by injection hlv2 with e1 e2 e3;exact⟨e1,e3⟩
   rcases hout2.1.2.2 with h0|⟨bb,off,rfl,hblt,hcl⟩
   ·omega
   obtain⟨g0,g1,g2,g3,g4⟩:=hcl i (by rw[hlen];exact hlt);rw[Cy kf hlt]at g0 g1 g2 g3 g4;obtain⟨t1,ht1⟩:∃t1,kf i=t1:=⟨_,rfl⟩
   rw[ht1]at g0 g1 g2 g3 g4;have be:=aC wr (.cells #[.int .i64 t1.c,.int .i64 t1.m.x,.int .i64 t1.m.y,.int .i64 t1.m.d,.int .i64 t1.m.e] 42)
   have HS0:=aA ((xS.mk (C5.box wr 42 t1) (hL.below be) (hQ.below be).cl).below (bL _ _).drew);have hpr:oW kf (aZ m+i)=⟨iQ t1 (M.both t1.m t.m),iQ t (M.both t1.m t.m),i,m⟩:=by unfold oW;rw[pJ m i hlt,ht1,ht]
   have HPR:=aA hpr;have HC:=fun(W:World)=>Ga W t1 t
   generalize iQ t1 (M.both t1.m t.m)=u at HC HPR;generalize iQ t (M.both t1.m t.m)=v at HC HPR;have HQd:=aA ((hQ.below be).below (bL _ _).drew)
   have HFd:=aA ((hF.next be).next (bL _ _).drew);have HKd:=aA ((HKX.out.next hQr0 be).next (by simp;omega) (bL _ _).drew)
   have HLd:=aA ((hL.below be).below (bL _ _).drew);have hsd:w.heap.size≤(wr.alloc (.cells #[.int .i64 t1.c,.int .i64 t1.m.x,.int .i64 t1.m.y,.int .i64 t1.m.d,.int .i64 t1.m.e] 42)).drew.heap.size:=HFd.out.size
   have hBd:∀j,a≤j→j<aZ m+i→Bi j<wr.heap.size:=fun j j1 j2=>(hQ.pr j j1 j2).lt;have HBD:=aA hBd
   have hlg:∀g,(Value.slice (some ⟨bb,off,none⟩) m lc).ownBlock=some g→g<wr.heap.size:=fun g hg=>(hQ.own.lt g hg).2;have HLG:=aA hlg
   clear hcl hout2 hlv2 hQ hF hL be hpr hBd hlg;go_wp2_with fail;clear g0 g1 g2 g3 g4;have hS:=HS0.out
   go_region_held3 (fun u=>xS u wr.heap.size w.heap.size Q z t1 t (.slice (some ⟨bb,off,none⟩) m lc)) (first|with_reducible exact hS|with_reducible exact xS.below hS b5|with_reducible exact xS.below (xS.below hS b5) (aC _ _)|with_reducible exact hS8) (first|(go_at_call 122;refine(HC _).mono ?_;rintro e w5 ⟨rfl,b5⟩)|(go_at_call 121;have hP:jK (w5.alloc (.cells #[.int .i64 u.c,.int .i64 u.m.x,.int .i64 u.m.y,.int .i64 u.m.d,.int .i64 u.m.e,.int .i64 v.c,.int .i64 v.m.x,.int .i64 v.m.y,.int .i64 v.m.d,.int .i64 v.m.e,.int .i64 (i:Int),.int .i64 (m:Int),.pointer none] 147)) w5.heap.size (oW kf (aZ m+i)) none:=(by rw[HPR.out];exact jK.box w5 147 ⟨u,v,i,m⟩ none);have hsz5:=b5.size;refine(Rl _ lo Q z _ m kf Bi a (aZ m+i) ((HQd.out.below b5).below (aC _ _)) (by omega) _ hP (by simp at hsz5;omega) (by simp at hsz5;omega) (fun q=>by have:=HLG.out _ q;simp at hsz5;omega) (fun j j1 j2=>by have:=HBD.out j j1 j2;simp at hsz5;omega)).mono ?_;rintro e w8 ⟨rfl,hq8,hf8,hk8⟩;have hS8:xS w8 wr.heap.size w.heap.size Q z t1 t (.slice (some ⟨bb,off,none⟩) m lc):=xS.fr (xS.below (xS.below hS b5) (aC _ _)) hf8 (fun q=>by rcases q with q|⟨q1,q2⟩;(· omega);(· have:=HBD.out (aZ m+i-1) (by omega) (by omega);omega)) (fun q=>by rcases q with q|⟨q1,q2⟩;(· omega);(· rcases Nat.lt_or_ge (aZ m+i-1) (aZ m)with k|k;(· have:=HB1.out _ k;have:=HBW.out (aZ m+i-1) (by omega) k;omega);(· have:=HB2.out _ k (by omega);omega))) hq8.cl))
   have hL8:C5 w8 w.heap.size t:=hS8.c5
   have hF8:Fr (QS Q (.slice (some ⟨bb,off,none⟩) m lc) B a (aZ m)) w w8:=((HFd.out.next b5).next (aC _ _)).step hf8 (fun k hk q=>by
    rcases q with q|⟨q1,q2⟩
    ·exact .inl q
    ·rcases Nat.lt_or_ge (aZ m+i-1) (aZ m)with k'|k'
     ·by_cases e0:i=0
      ·subst e0;exact .inr (.inr ⟨by omega,by rw[q2];exact HB1.out _ k'⟩)
      ·omega
     ·have:=HB2.out _ k' (by omega)
      omega)
   have hs5:w.heap.size<w5.heap.size:=by have:=b5.size;simp at this;omega
   have HK8:=aA (((HKd.out.next (by simp;omega) b5).next (by omega) (aC _ _)).trans hk8);have HQ8:=aA hq8
   have HL8:=aA hL8;have HF8:=aA hF8
   clear hS hS8 hq8 hf8 hk8 hL8 hF8 b5 HC hP hsz5;go_wp2;go_roundw
   case rel=>exact⟨i+1,AE Bi (aZ m+i) w5.heap.size,by omega,by go_num,HQ8.out,fun j hj=>by
    unfold AE;rw[if_neg (by omega)];exact HB1.out j hj,fun j j1 j2=>by
    unfold AE;split
    ·exact hs5
    ·exact HB2.out j j1 (by omega),HF8.out,HL8.out,HK8.out⟩
   case measure=>simp[intOf];omega
  ·have hie:i=m:=by omega
   subst hie;have hnl:¬(i:Int)<(i:Int):=by omega
   have bd:Below wr.heap.size wr wr.drew:=(bL _ _).drew;have ba:=aC wr.drew (.cells #[.int .i64 t.c,.int .i64 t.m.x,.int .i64 t.m.y,.int .i64 t.m.d,.int .i64 t.m.e] 42)
   have hQa:=(hQ.below bd).below ba;have c0:=hQ.cl
   have z0:=hQ.fz.1;obtain⟨l0,l1,l2,l3,l4⟩:=hL;have hOa:((wr.drew).alloc (.cells #[.int .i64 t.c,.int .i64 t.m.x,.int .i64 t.m.y,.int .i64 t.m.d,.int .i64 t.m.e] 42)).ownsRow lo 42 5 (.slice la i lc) i (aE ((List.range i).map kf)):=by
    have:=hQa.own
    rwa[hlen]at this
   have hnQ:¬(Value.slice la i lc).ownBlock=some Q:=fun q=>hQ.ap Q q rfl;have hQr:Q<wr.heap.size:=hQ.lt
   have hnew:=heap_alloc_new wr.drew (.cells #[.int .i64 t.c,.int .i64 t.m.x,.int .i64 t.m.y,.int .i64 t.m.d,.int .i64 t.m.e] 42);have HQa:=aA hQa
   have HFa:=aA ((HF.out.next bd).next ba);have HKa:=aA ((HKX.out.next hQr bd).next (by simp;omega) ba)
   have HOA:=aA hOa;have HNE:=aA hnew
   have hlor:lo≤wr.heap.size:=jZ hlo hsr;have cA:=hQa.cl
   have zA:=hQa.fz.1;have HCA:=aA cA
   have HZA:=aA zA;clear hQ hF hQa hOa hnew bd ba cA zA;go_wp2_with fail
   go_region_law (refine step_append_lies _ (by rfl) (.tmp 34) (.tmp 36) 45 (by rfl) lo 42 i0 _ 5 40 Tryz.underlying45 hi0 hz0 hz1 hz2 rfl (by omega) _ i (aE ((List.range i).map kf)) (by rfl) HOA.out ⟨wr.heap.size,0,none⟩ 1 1 (aE [t]) (by rfl) (by rw[aX];rfl) (by rw[dM];exact World.news_of_block HNE.out) (dX _) (by omega) (by unfold maxLen;omega) (by omega) (by simp;omega) _ rfl ?_;intro g0 cap0 w9 hown hgrow hat hlt9;have c9:=(JE (b:=Q) (o:=z) hgrow (by simp;omega) hnQ).trans HCA.out;have z9:=(yE (b:=Q) (o:=z) hgrow (by simp;omega) hnQ).trans HZA.out)
   all_goals(
    clear c9 z9 l0 l1 l2 l3 l4 c0 z0;have HOWN:=aA hown
    have HGR:=aA hgrow;have HAT:=aA hat
    clear hown hgrow hat hlt9;go_wp2
    go_end0
    have hl':∀g,(Value.slice (some ⟨g0,0,none⟩) (i+1) cap0).ownBlock=some g→(Value.slice la i lc).ownBlock=some g∨g=wr.heap.size+1:=fun g hg=>by
     have e:g0=g:=by simpa[Value.ownBlock]using hg
     subst e;exact HAT.out.imp id (fun q=>by rw[q];simp)
    have ho:w9.ownsRow lo 42 5 (.slice (some ⟨g0,0,none⟩) (i+1) cap0) ((List.range (i+1)).map kf).length (aE ((List.range (i+1)).map kf)):=by have h:=HOWN.out;rw[←ht,←bK,←OX]at h;rw[show((List.range (i+1)).map kf).length=i+1 by simp];exact h
    refine⟨rfl,.slice (some ⟨g0,0,none⟩) (i+1) cap0,Bi,HQa.out.lead HGR.out rfl ho (fun g hg=>by simpa using hl' g hg),HB1.out,fun j j1 j2=>Nat.le_of_lt (HB2.out j j1 j2),fun g hg=>(hl' g hg).imp id (fun q=>by omega),?_,?_⟩
    ·exact(HFa.out.grown HGR.out (fun g e hk=>.inr (.inl e))).set (fun _=>.inl rfl)
    ·exact(HKa.out.grownK HGR.out (by simp;omega) (fun q=>hnQ q)).setQ (.inl rfl) _)
abbrev Mh (w:World) (b:Nat) (t:T):Prop:=w.cell? ⟨b,0,none⟩=some (.int .i64 t.c)∧w.cell? ⟨b,1,none⟩=some (.int .i64 t.m.x)∧w.cell? ⟨b,2,none⟩=some (.int .i64 t.m.y)∧w.cell? ⟨b,3,none⟩=some (.int .i64 t.m.d)∧w.cell? ⟨b,4,none⟩=some (.int .i64 t.m.e)
theorem Mh.fr {P:Nat→Prop} {w w':World} {b:Nat} {t:T} (h:Mh w b t) (hf:Fr P w w') (hp:¬P b):Mh w' b t:=hf.c5 (t:=t) h hp
theorem Jm (w:World) (Mb:Nat) (v:Value) (ra:Option Addr) (g rc:Nat):∀j u,[Value.slice ra g rc][j]? =some u→((w.setCell ⟨Mb,0,none⟩ v).alloc (.cells #[.slice ra g rc] 24)).cell? ((⟨w.heap.size,0,none⟩:Addr).add j)=some u:=by
 have:=World.news_of_block (heap_alloc_new (w.setCell ⟨Mb,0,none⟩ v) (.cells #[.slice ra g rc] 24))
 rwa[World.size_setCell]at this
def QY (lo Mb:Nat) (lv:Value) (Bq:Nat→Nat) (a e k:Nat):Prop:=k<lo∨k=Mb∨lv.ownBlock=some k∨∃j,a≤j∧j<e∧k=Bq j
structure Mx (w:World) (Mb:Nat) (tvL tvP:Value) (o:Int) (f:Nat):Prop where
 c0:w.cell? ⟨Mb,0,none⟩=some tvL
 c1:w.cell? ⟨Mb,1,none⟩=some tvP
 c2:w.cell? ⟨Mb,2,none⟩=some (.bool false)
 c3:w.cell? ⟨Mb,3,none⟩=some (.int .i64 o)
 c7:w.cell? ⟨Mb,7,none⟩=some (.int .i64 (f:Int))
 fz:∀j,w.frozen? ⟨Mb,j,none⟩=false
theorem Mx.lt {w:World} {Mb:Nat} {tvL tvP:Value} {o:Int} {f:Nat} (h:Mx w Mb tvL tvP o f):Mb<w.heap.size:=cX w _ h.c0
theorem Mx.fr {P:Nat→Prop} {w w':World} {Mb:Nat} {tvL tvP:Value} {o:Int} {f:Nat} (h:Mx w Mb tvL tvP o f) (hf:Fr P w w') (hp:¬P Mb):Mx w' Mb tvL tvP o f:=
 ⟨(hf.cell h.lt hp).trans h.c0,(hf.cell h.lt hp).trans h.c1,(hf.cell h.lt hp).trans h.c2,(hf.cell h.lt hp).trans h.c3,(hf.cell h.lt hp).trans h.c7,fun j=>(hf.frozen h.lt hp).trans (h.fz j)⟩
theorem Mx.below {w w':World} {Mb:Nat} {tvL tvP:Value} {o:Int} {f:Nat} (h:Mx w Mb tvL tvP o f) (hb:Below w.heap.size w w'):Mx w' Mb tvL tvP o f:=h.fr (P:=fun _=>False) (bA hb) id
theorem Mx.set0 {w:World} {Mb:Nat} {tvL tvP:Value} {o:Int} {f:Nat} (h:Mx w Mb tvL tvP o f) (v:Value):Mx (w.setCell ⟨Mb,0,none⟩ v) Mb v tvP o f:=⟨iX h.c0,(aS (tW (by decide))).trans h.c1,(aS (tW (by decide))).trans h.c2,(aS (tW (by decide))).trans h.c3,(aS (tW (by decide))).trans h.c7,fun j=>(World.frozen?_setCell ..).trans (h.fz j)⟩
theorem Mx.set1 {w:World} {Mb:Nat} {tvL tvP:Value} {o:Int} {f:Nat} (h:Mx w Mb tvL tvP o f) (v:Value):Mx (w.setCell ⟨Mb,1,none⟩ v) Mb tvL v o f:=⟨(aS (tW (by decide))).trans h.c0,iX h.c1,(aS (tW (by decide))).trans h.c2,(aS (tW (by decide))).trans h.c3,(aS (tW (by decide))).trans h.c7,fun j=>(World.frozen?_setCell ..).trans (h.fz j)⟩
theorem Mx.set7 {w:World} {Mb:Nat} {tvL tvP:Value} {o:Int} {f:Nat} (h:Mx w Mb tvL tvP o f) (f':Nat):Mx (w.setCell ⟨Mb,7,none⟩ (.int .i64 (f':Int))) Mb tvL tvP o f':=⟨(aS (tW (by decide))).trans h.c0,(aS (tW (by decide))).trans h.c1,(aS (tW (by decide))).trans h.c2,(aS (tW (by decide))).trans h.c3,iX h.c7,fun j=>(World.frozen?_setCell ..).trans (h.fz j)⟩
structure MW (w:World) (lo Mb g:Nat) (o:Int) (f:Nat) (B:Bs) (a:Nat) (tvL tvP lv:Value) (LS PS:List Value) (Bq:Nat→Nat):Prop where
 bx:Mx w Mb tvL tvP o f
 qu:lQ w lo Mb 4 lv B.m (fun i=>aV o (B.L i)) Bq a (aZ B.m)
 bk:mT (QY lo Mb lv Bq a (aZ B.m)) w lo tvL tvP g B.m B.L B.m B.P LS PS
 le:a≤aZ B.m
 m12:B.m≤12
 lo:lo≤Mb
theorem MW.below {w w':World} {lo Mb g:Nat} {o:Int} {f:Nat} {B:Bs} {a:Nat} {tvL tvP lv:Value} {LS PS:List Value} {Bq:Nat→Nat} (h:MW w lo Mb g o f B a tvL tvP lv LS PS Bq) (hb:Below w.heap.size w w'):MW w' lo Mb g o f B a tvL tvP lv LS PS Bq:=⟨h.bx.below hb,h.qu.below hb,h.bk.below hb,h.le,h.m12,h.lo⟩
theorem MW.ylt {w:World} {lo Mb g:Nat} {o:Int} {f:Nat} {B:Bs} {a:Nat} {tvL tvP lv:Value} {LS PS:List Value} {Bq:Nat→Nat} (h:MW w lo Mb g o f B a tvL tvP lv LS PS Bq) {k:Nat} (hk:QY lo Mb lv Bq a (aZ B.m) k):k<w.heap.size:=by
 have h1:=h.bx.lt;have h2:=h.lo
 rcases hk with hk|rfl|hk|⟨j,j1,j2,rfl⟩
 ·omega
 ·exact h1
 ·exact(h.qu.own.lt k hk).2
 ·exact(h.qu.pr j j1 j2).lt
theorem MW.qlo {w:World} {lo Mb g:Nat} {o:Int} {f:Nat} {B:Bs} {a:Nat} {tvL tvP lv:Value} {LS PS:List Value} {Bq:Nat→Nat} (h:MW w lo Mb g o f B a tvL tvP lv LS PS Bq) {k:Nat} (hk:QS Mb lv Bq a (aZ B.m) k):lo≤k:=by
 rcases hk with rfl|hk|⟨q1,rfl⟩
 ·exact h.lo
 ·exact(h.qu.own.lt k hk).1
 ·exact(h.qu.bk _ (by omega) (by omega)).1
theorem XA {w w3:World} {lo Mb g:Nat} {o:Int} {f:Nat} {B:Bs} {a:Nat} {tvL tvP lv lv':Value} {LS PS:List Value} {Bq Bq':Nat→Nat} (h:MW w lo Mb g o f B a tvL tvP lv LS PS Bq) (hB:∀j,j<aZ B.m→Bq' j=Bq j) (hN:∀j,aZ B.m≤j→j<aZ (B.m+1)→w.heap.size≤Bq' j) (hlv:∀k,lv'.ownBlock=some k→lv.ownBlock=some k∨w.heap.size≤k) (hf:Fr (QS Mb lv Bq a (aZ B.m)) w w3):(mT (QY lo Mb lv' Bq' a (aZ (B.m+1))) w3 lo tvL tvP g B.m B.L B.m B.P LS PS)∧(∀k,QS Mb lv Bq a (aZ B.m) k→QY lo Mb lv Bq a (aZ B.m) k)∧(∀k,k<w.heap.size→QY lo Mb lv' Bq' a (aZ (B.m+1)) k→QY lo Mb lv Bq a (aZ B.m) k):=by
 have s1:∀k,QS Mb lv Bq a (aZ B.m) k→QY lo Mb lv Bq a (aZ B.m) k:=fun k hk=>by
  rcases hk with q|q|⟨q1,q2⟩
  ·exact .inr (.inl q)
  ·exact .inr (.inr (.inl q))
  ·exact .inr (.inr (.inr ⟨aZ B.m-1,by omega,by omega,q2⟩))
 have s2:∀k,k<w.heap.size→QY lo Mb lv' Bq' a (aZ (B.m+1)) k→QY lo Mb lv Bq a (aZ B.m) k:=fun k hk q=>by
  rcases q with q|q|q|⟨j,j1,j2,rfl⟩
  ·exact .inl q
  ·exact .inr (.inl q)
  ·rcases hlv k q with q|q
   ·exact .inr (.inr (.inl q))
   ·omega
  ·by_cases e:j<aZ B.m
   ·exact .inr (.inr (.inr ⟨j,j1,e,hB j e⟩))
   ·have:=hN j (by omega) j2;omega
 refine⟨?_,s1,s2⟩;have h1:=h.bk.yet (Y':=fun b=>QY lo Mb lv Bq a (aZ B.m) b∨QY lo Mb lv' Bq' a (aZ (B.m+1)) b) (fun b hb q=>q.elim id (s2 b hb))
 exact(h1.fr hf (fun b q=>.inl (s1 b q))).yet (fun b _ q=>.inr q)
theorem Mx.kx {w w' : World} {lo Mb : Nat} {tvL tvP lv : Value} {o : Int} {f m : Nat} {kf : Nat → T} {B : Nat → Nat} {a e : Nat} (h : Mx w Mb tvL tvP o f) (hk : Kx Mb 4 w w') (hq : lQ  w' lo Mb 4 lv m kf B a e) : Mx w' Mb tvL tvP o f :=
  ⟨(hk 0 (by decide) (by decide) (by decide)).1.trans h.c0, (hk 1 (by decide) (by decide) (by decide)).1.trans h.c1, (hk 2 (by decide) (by decide) (by decide)).1.trans h.c2, (hk 3 (by decide) (by decide) (by decide)).1.trans h.c3, (hk 7 (by decide) (by decide) (by decide)).1.trans h.c7, fun j => by
    by_cases e1 : j = 4
    · subst e1; exact hq.fz.1
    · by_cases e2 : j = 5
      · subst e2; exact hq.fz.2.1
      · by_cases e3 : j = 6
        · subst e3; exact hq.fz.2.2
        · exact (hk j e1 e2 e3).2.trans (h.fz j)⟩
structure Oz (w3:World) (lo Mb g:Nat) (o:Int) (f:Nat) (B:Bs) (r:List T) (a:Nat) (tvL tvP lv:Value) (LS PS:List Value) (Bq:Nat→Nat) (pa:Option Addr) (pc:Nat) (ra:Option Addr) (rc:Nat) (rad:Nat→Option Addr) (rcp:Nat→Nat) (R:Nat→List T):Prop where
 bx:Mx w3 Mb tvL tvP o f
 qu:lQ w3 lo Mb 4 lv (B.m+1) (fun i=>aV o (dD B.L B.m r i)) Bq a (aZ (B.m+1))
 bk:mT (QY lo Mb lv Bq a (aZ (B.m+1))) w3 lo tvL tvP g B.m B.L B.m B.P LS PS
 rr:ES (NB (QY lo Mb lv Bq a (aZ (B.m+1))) tvL tvP) w3 pa pc r
 rs:tU (NB (QY lo Mb lv Bq a (aZ (B.m+1))) tvL tvP) w3 ra g rc rad rcp R
 lo:lo≤Mb
theorem Oz.ylt {w3:World} {lo Mb g:Nat} {o:Int} {f:Nat} {B:Bs} {r:List T} {a:Nat} {tvL tvP lv:Value} {LS PS:List Value} {Bq:Nat→Nat} {pa:Option Addr} {pc:Nat} {ra:Option Addr} {rc:Nat} {rad:Nat→Option Addr} {rcp:Nat→Nat} {R:Nat→List T} (h:Oz w3 lo Mb g o f B r a tvL tvP lv LS PS Bq pa pc ra rc rad rcp R):∀k,QY lo Mb lv Bq a (aZ (B.m+1)) k→k<w3.heap.size:=fun k hk=>by
 have l1:=h.bx.lt;have l2:=h.lo
 rcases hk with hk|rfl|hk|⟨j,j1,j2,rfl⟩
 ·omega
 ·exact h.bx.lt
 ·exact(h.qu.own.lt k hk).2
 ·exact(h.qu.pr j j1 j2).lt
structure Sm (w5:World) (lo Mb g:Nat) (o:Int) (f:Nat) (B:Bs) (r:List T) (a:Nat) (tvL tvP lv:Value) (LS PS:List Value) (Bq:Nat→Nat) (ra:Option Addr) (rc:Nat) (rad:Nat→Option Addr) (rcp:Nat→Nat) (R:Nat→List T):Prop where
 bx:Mx w5 Mb tvL tvP o f
 qu:lQ w5 lo Mb 4 lv (B.m+1) (fun i=>aV o (dD B.L B.m r i)) Bq a (aZ (B.m+1))
 bk:mT (QY lo Mb lv Bq a (aZ (B.m+1))) w5 lo tvL tvP g (B.m+1) (dD B.L B.m r) B.m B.P LS PS
 rs:tU (NB (QY lo Mb lv Bq a (aZ (B.m+1))) tvL tvP) w5 ra g rc rad rcp R
 lo:lo≤Mb
theorem lQ.own_fr {w w':World} {lo Mb:Nat} {lv:Value} {m:Nat} {kf:Nat→T} {Bq:Nat→Nat} {a e:Nat} (h:lQ w lo Mb 4 lv m kf Bq a e) {v:Value} (hf:Fr (fun k=>v.ownBlock=some k) w w') (hn:∀k,v.ownBlock=some k→¬QY lo Mb lv Bq a e k):lQ w' lo Mb 4 lv m kf Bq a e:=
 h.fr hf (fun q=>hn _ q (.inr (.inl rfl))) (fun g hg q=>hn _ q (.inr (.inr (.inl hg)))) (fun j j1 j2 q=>hn _ q (.inr (.inr (.inr ⟨j,j1,j2,rfl⟩))))
theorem Oz.next  {w3 w5 : World} {lo Mb g : Nat} {o : Int} {f : Nat} {B : Bs} {r : List T} {a : Nat} {tvL tvP lv : Value} {LS PS : List Value} {Bq : Nat → Nat} {pa : Option Addr} {pc : Nat} {ra : Option Addr} {rc : Nat} {rad : Nat → Option Addr} {rcp : Nat → Nat} {R : Nat → List T} (h : Oz  w3 lo Mb g o f B r a tvL tvP lv LS PS Bq pa pc ra rc rad rcp R) {g1 cap1 : Nat}
    (ho : w5.ownsRow lo 45 1 (.slice (some ⟨g1, 0, none⟩) (B.m + 1) cap1) (B.m + 1) (LS ++ [.slice pa r.length pc])) (hg : (w3.alloc (.cells #[.slice pa r.length pc] 45)).grownBy w5 tvL.ownBlock) (ha : tvL.ownBlock = some g1 ∨ g1 = (w3.alloc (.cells #[.slice pa r.length pc] 45)).heap.size) :
    Mx w5 Mb tvL tvP o f ∧ Sm  (w5.setCell ⟨Mb, 0, none⟩ (.slice (some ⟨g1, 0, none⟩) (B.m + 1) cap1)) lo Mb g o f B r a (.slice (some ⟨g1, 0, none⟩) (B.m + 1) cap1) tvP lv (LS ++ [.slice pa r.length pc]) PS Bq ra rc rad rcp R ∧ Fr (fun k => lo ≤ k) w3 (w5.setCell ⟨Mb, 0, none⟩ (.slice (some ⟨g1, 0, none⟩) (B.m + 1) cap1)) := by
  have f5 : Fr (fun k => tvL.ownBlock = some k) w3 w5 := ((Fr.refl _ w3).next (aC      w3 _)).grown hg (fun k e _ => e)
  have nL : ∀ k, tvL.ownBlock = some k → ¬ QY lo Mb lv Bq a (aZ  (B.m + 1)) k := fun k e => (h.bk.nL k e).2
  have x5 := h.bx.fr f5 (fun q => nL _ q (.inr (.inl rfl)))
  have k5 := h.bk.appL h.ylt h.rr hg ho ha
  have q5 := h.qu.own_fr f5 nL
  have sY : Fr (QY lo Mb lv Bq a (aZ  (B.m + 1))) w5 (w5.setCell ⟨Mb, 0, none⟩ (.slice (some ⟨g1, 0, none⟩) (B.m + 1) cap1)) := (Fr.refl _ w5).set (fun _ => .inr (.inl rfl))
  have hg1 : tvL.ownBlock = some g1 ∨ g1 = w3.heap.size + 1 := ha.imp id (fun e => by rw [e]; simp)
  have rs5 : tU  (NB (QY lo Mb lv Bq a (aZ  (B.m + 1))) (.slice (some ⟨g1, 0, none⟩) (B.m + 1) cap1) tvP) (w5.setCell ⟨Mb, 0, none⟩ (.slice (some ⟨g1, 0, none⟩) (B.m + 1) cap1)) ra g rc rad rcp R :=
    (((h.rs.mono (N' := fun b => NB (QY lo Mb lv Bq a (aZ  (B.m + 1))) tvL tvP b ∧ b < w3.heap.size) (fun b hb nb => ⟨nb, hb⟩)).fr f5 (fun b nb q => nb.1.1 q)).fr sY (fun b nb q => nb.1.2.2 q)).mono (fun b _ nb => ⟨fun q => by
      have e : g1 = b := by simpa [Value.ownBlock] using q
      rcases hg1 with q' | q'
      · exact nb.1.1 (by rw [q', e])
      · have := nb.2; omega, nb.1.2.1, nb.1.2.2⟩)
  exact ⟨x5, ⟨x5.set0 _, q5.put (by decide) _, k5.fr sY (fun b q => q), rs5, h.lo⟩, (f5.mono (fun k _ e => (h.bk.rL.lt k e).1)).set (fun _ => h.lo)⟩
theorem Sm.next {w5 w7:World} {lo Mb g:Nat} {o:Int} {f:Nat} {B:Bs} {r:List T} {a:Nat} {tvL tvP lv:Value} {LS PS:List Value} {Bq:Nat→Nat} {ra:Option Addr} {rc:Nat} {rad:Nat→Option Addr} {rcp:Nat→Nat} {R:Nat→List T} (h:Sm w5 lo Mb g o f B r a tvL tvP lv LS PS Bq ra rc rad rcp R) (hm:B.m≤11) (hle:a≤aZ (B.m+1)) {g1 cap1:Nat} (ho:w7.ownsRow lo 24 1 (.slice (some ⟨g1,0,none⟩) (B.m+1) cap1) (B.m+1) (PS++[.slice ra g rc])) (hg:(w5.alloc (.cells #[.slice ra g rc] 24)).grownBy w7 tvP.ownBlock) (ha:tvP.ownBlock=some g1∨g1=(w5.alloc (.cells #[.slice ra g rc] 24)).heap.size):Mx w7 Mb tvL tvP o f∧MW (w7.setCell ⟨Mb,1,none⟩ (.slice (some ⟨g1,0,none⟩) (B.m+1) cap1)) lo Mb g o f (IW B r R) a tvL (.slice (some ⟨g1,0,none⟩) (B.m+1) cap1) lv LS (PS++[.slice ra g rc]) Bq∧Fr (fun k=>lo≤k) w5 (w7.setCell ⟨Mb,1,none⟩ (.slice (some ⟨g1,0,none⟩) (B.m+1) cap1)):=by
 have f5:Fr (fun k=>tvP.ownBlock=some k) w5 w7:=((Fr.refl _ w5).next (aC w5 _)).grown hg (fun k e _=>e);have nP:∀k,tvP.ownBlock=some k→¬QY lo Mb lv Bq a (aZ (B.m+1)) k:=fun k e=>h.bk.nP k e
 have ylt:∀k,QY lo Mb lv Bq a (aZ (B.m+1)) k→k<w5.heap.size:=fun k hk=>by
  have l1:=h.bx.lt;have l2:=h.lo
  rcases hk with hk|rfl|hk|⟨j,j1,j2,rfl⟩
  ·omega
  ·exact h.bx.lt
  ·exact(h.qu.own.lt k hk).2
  ·exact(h.qu.pr j j1 j2).lt
 have x5:=h.bx.fr f5 (fun q=>nP _ q (.inr (.inl rfl)));have k5:=h.bk.appP ylt h.rs hg ho ha
 have q5:=h.qu.own_fr f5 nP;have sY:Fr (QY lo Mb lv Bq a (aZ (B.m+1))) w7 (w7.setCell ⟨Mb,1,none⟩ (.slice (some ⟨g1,0,none⟩) (B.m+1) cap1)):=(Fr.refl _ w7).set (fun _=>.inr (.inl rfl))
 exact⟨x5,⟨x5.set1 _,q5.put (by decide) _,k5.fr sY (fun b q=>q),hle,(show B.m+1≤12 by omega),h.lo⟩,(f5.mono (fun k _ e=>(h.bk.rP.lt k e).1)).set (fun _=>h.lo)⟩
theorem Lh (w:World) (lo Mb g:Nat) (o:Int) (f:Nat) (B:Bs) (a:Nat) (tvL tvP lv:Value) (LS PS:List Value) (Bq:Nat→Nat) (h:MW w lo Mb g o f B a tvL tvP lv LS PS Bq) (ho:1≤o∧o≤3) (hm:B.m≤11) (pa:Option Addr) (pc:Nat) (r:List T) (hr:ES (NB (QY lo Mb lv Bq a (aZ B.m)) tvL tvP) w pa pc r) (hok:cG r=true) (h0:r.length≠0) (ra:Option Addr) (rc:Nat) (rad:Nat→Option Addr) (rcp:Nat→Nat) (R:Nat→List T) (hR:tU (NB (QY lo Mb lv Bq a (aZ B.m)) tvL tvP) w ra g rc rad rcp R):Calls Tryz.prog 140 #[.pointer (some ⟨Mb,0,none⟩),.slice pa r.length pc,.slice ra g rc] w fun e w'=>e= .returned (.tuple #[])∧∃tvL' tvP' lv' LS' PS' Bq',MW w' lo Mb g o f (IW B r R) a tvL' tvP' lv' LS' PS' Bq'∧Fr (fun k=>lo≤k) w w':=by
 obtain⟨i0,hi0,hz0,hz1,hz2⟩:=info_parts uU;obtain⟨i1,hi1,hy0,hy1,hy2⟩:=info_parts RI;obtain⟨t,ht⟩:∃t,aV o r=t:=⟨_,rfl⟩
 have hlead:bQ o r.length (lf r)=t:=(yH ho hok h0).symm.trans ht;have hcl:=kV w o pa r.length pc (lf r) hr.1
 rw[hlead]at hcl;have HCL:=aA hcl
 have HT:=aA ht;have HH:=aA h
 have HR:=aA hr;have HRS:=aA hR
 have c3:=h.bx.c3;have hmax:B.m+1≤maxLen:=by unfold maxLen;omega
 have hml:(B.m:Int)≤11:=by omega
 clear h hr hR hcl hlead ht;go_enter Tryz.func140,Tryz.ntmps140;go_wp2_with fail;refine HCL.out.mono ?_;rintro e w1 ⟨rfl,b1⟩;clear c3 HCL;have bx:=(aC w1 (.cells #[.int .i64 t.c,.int .i64 t.m.x,.int .i64 t.m.y,.int .i64 t.m.d,.int .i64 t.m.e] 42)).drew
 have b2:=aB b1 bx;have HC5:Hid (C5 (w1.alloc (.cells #[.int .i64 t.c,.int .i64 t.m.x,.int .i64 t.m.y,.int .i64 t.m.d,.int .i64 t.m.e] 42)).drew w1.heap.size t):=(C5.box w1 42 t).below (bL _ _).drew
 have HB2:=aA b2;have HM2:=aA (HH.out.below b2)
 have HR2:Hid (ES (NB (QY lo Mb lv Bq a (aZ B.m)) tvL tvP) (w1.alloc (.cells #[.int .i64 t.c,.int .i64 t.m.x,.int .i64 t.m.y,.int .i64 t.m.d,.int .i64 t.m.e] 42)).drew pa pc r):=HR.out.fr (P:=fun _=>False) (bA b2) (fun _ _ q=>q);have HRS2:Hid (tU (NB (QY lo Mb lv Bq a (aZ B.m)) tvL tvP) (w1.alloc (.cells #[.int .i64 t.c,.int .i64 t.m.x,.int .i64 t.m.y,.int .i64 t.m.d,.int .i64 t.m.e] 42)).drew ra g rc rad rcp R):=HRS.out.fr (P:=fun _=>False) (bA b2) (fun _ _ q=>q)
 have hylt:∀k,QY lo Mb lv Bq a (aZ B.m) k→k<w1.heap.size:=fun k hk=>jY (HH.out.ylt hk) b1.size;have hkf:(fun i=>aV o (dD B.L B.m r i)) B.m=t:=by show aV o (dD B.L B.m r B.m)=t;unfold dD;rw[if_pos rfl];exact HT.out
 have hq2:=HM2.out.qu.congr (kf':=fun i=>aV o (dD B.L B.m r i)) (Nat.le_refl _) (fun i hi=>by show aV o (B.L i)=aV o (dD B.L B.m r i);unfold dD;rw[if_neg (by omega)]);have hlo2:lo≤(w1.alloc (.cells #[.int .i64 t.c,.int .i64 t.m.x,.int .i64 t.m.y,.int .i64 t.m.d,.int .i64 t.m.e] 42)).drew.heap.size:=by have h1:=HM2.out.lo;have h2:=HM2.out.bx.lt;omega
 have HCM:=aA (Py _ lo Mb 4 lv B.m _ Bq a hq2 HM2.out.le (by omega) hlo2 t hkf);have HYL:=aA hylt
 clear b1 b2 bx hq2 hkf hylt hlo2;go_wp2_with fail;obtain⟨s0,s1,s2,s3,s4⟩:=HC5.out;have hS:Mh (w1.alloc (.cells #[.int .i64 t.c,.int .i64 t.m.x,.int .i64 t.m.y,.int .i64 t.m.d,.int .i64 t.m.e] 42)).drew w1.heap.size t:=⟨s0,s1,s2,s3,s4⟩
 clear s0 s1 s2 s3 s4
 go_region_held3 (fun x=>Mh x w1.heap.size t) (first|with_reducible exact hS3|with_reducible exact hS) (first|(go_at_call 77;refine HCM.out.mono ?_;rintro e w3 ⟨rfl,lv',Bq',hq3,hB3,hN3,hlv3,hf3,hk3⟩;have hS3:Mh w3 w1.heap.size t:=Mh.fr hS hf3 (fun q=>by rcases q with q|q|⟨q1,q2⟩;(· have:=HYL.out _ (.inr (.inl q));omega);(· have:=HYL.out _ (.inr (.inr (.inl q)));omega);(· have:=HYL.out _ (.inr (.inr (.inr ⟨aZ B.m-1,by omega,by omega,q2⟩)));omega))))
 obtain⟨bk3,sub1,sub2⟩:=XA HM2.out hB3 hN3 hlv3 hf3;have hrr3:ES (NB (QY lo Mb lv' Bq' a (aZ (B.m+1))) tvL tvP) w3 pa pc r:=((HR2.out.mono (N':=fun b=>NB (QY lo Mb lv Bq a (aZ B.m)) tvL tvP b∧NB (QY lo Mb lv' Bq' a (aZ (B.m+1))) tvL tvP b) (fun b hb nb=>⟨nb,nb.1,nb.2.1,fun q=>nb.2.2 (sub2 b hb q)⟩)).fr hf3 (fun b nb q=>nb.1.2.2 (sub1 b q))).mono (fun b _ nb=>nb.2)
 have hrs3:tU (NB (QY lo Mb lv' Bq' a (aZ (B.m+1))) tvL tvP) w3 ra g rc rad rcp R:=((HRS2.out.mono (N':=fun b=>NB (QY lo Mb lv Bq a (aZ B.m)) tvL tvP b∧NB (QY lo Mb lv' Bq' a (aZ (B.m+1))) tvL tvP b) (fun b hb nb=>⟨nb,nb.1,nb.2.1,fun q=>nb.2.2 (sub2 b hb q)⟩)).fr hf3 (fun b nb q=>nb.1.2.2 (sub1 b q))).mono (fun b _ nb=>nb.2);have HA3:Hid (Oz w3 lo Mb g o f B r a tvL tvP lv' LS PS Bq' pa pc ra rc rad rcp R):=⟨HM2.out.bx.kx hk3 hq3,hq3,bk3,hrr3,hrs3,HM2.out.lo⟩
 have HF3:Hid (Fr (fun k=>lo≤k) w w3):=(bA HB2.out).trans (hf3.mono (fun k _ q=>HM2.out.qlo q));have hlo3:lo≤w3.heap.size:=by have h1:=HM2.out.lo;have h2:=HA3.out.bx.lt;omega
 have hle3:a≤aZ (B.m+1):=jZ HM2.out.le (xN (Nat.le_succ _));obtain⟨la,lc,lad,lcp,hla,_⟩:=bk3.readL (by omega);obtain⟨qa,qc,qA,qC,qAD,qCP,hqa,_⟩:=bk3.readP (by omega);subst hla hqa;obtain⟨k0,k1,k2,k3,k7,kz⟩:=HA3.out.bx;have z0:=kz 0
 clear hS hS3 hq3 hB3 hN3 hlv3 hf3 hk3 bk3 sub1 sub2 hrr3 hrs3 HCM HM2 HR2 HRS2 HH HR HRS k2 k3 k7 kz HC5;go_wp2_with (first|(at_builtin;refine wpList_append_lies _ rfl (.tmp 27) (.tmp 29) 24 rfl lo 45 i0 _ 1 24 Tryz.underlying24 hi0 hz0 hz1 hz2 rfl (by omega) _ B.m LS rfl (HA3.out.bk.rL.alloc _) ⟨w3.heap.size,0,none⟩ 1 1 [.slice pa r.length pc] rfl rfl (World.news_of_block (heap_alloc_new w3 _)) (kH _ _ _) (by omega) hmax (by omega) (by simp;omega) _ rfl ?_;intro g1 cap1 w5 hown2 hgrow2 hat2 hlt2;have HP5:=aA (HA3.out.next hown2 hgrow2 hat2);obtain⟨e0,e1,e2,e3,e7,ez⟩:=HP5.out.1;have hs5:lo≤w5.heap.size:=(by have h1:=HP5.out.2.1.lo;have h2:=HP5.out.1.lt;omega);have HN5:=aA (Jm w5 Mb (.slice (some ⟨g1,0,none⟩) (B.m+1) cap1) ra g rc);clear k0 k1 z0 hown2 hgrow2 hat2 hlt2 e2 e3 e7)|(at_builtin;refine wpList_append_lies _ rfl (.tmp 39) (.tmp 41) 75 rfl lo 24 i1 _ 1 24 Tryz.underlying75 hi1 hy0 hy1 hy2 rfl (by omega) _ B.m PS rfl (HP5.out.2.1.bk.rP.alloc _) ⟨w5.heap.size,0,none⟩ 1 1 [.slice ra g rc] rfl rfl HN5.out (kH _ _ _) (by omega) hmax (by omega) (by simp;omega) _ rfl ?_;intro g2 cap2 w7 hown3 hgrow3 hat3 hlt3;have HP7:=aA (HP5.out.2.1.next hm hle3 hown3 hgrow3 hat3);obtain⟨f0,f1,f2,f3,f7,fz⟩:=HP7.out.1;clear hown3 hgrow3 hat3 hlt3 e0 e1 ez f2 f3 f7))
 go_end0
 exact⟨rfl,_,_,lv',_,_,Bq',HP7.out.2.1,(HF3.out.trans HP5.out.2.2).trans HP7.out.2.2⟩
end Go.Proofs.YtdidlcjhodejjaaGreat
