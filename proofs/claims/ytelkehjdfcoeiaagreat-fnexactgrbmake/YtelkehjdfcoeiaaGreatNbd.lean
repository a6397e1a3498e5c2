/-
  The model's division, to its end.
-/
import Derived.Test.YtelkehjdfcoeiaaGreatNbc
set_option maxHeartbeats 16000000
set_option maxRecDepth 100000
namespace Go.Proofs.YtelkehjdfcoeiaaGreat
open Go.RowKit Go.Deep Go.Joins
set_option linter.unusedVariables false
set_option linter.unusedSimpArgs false
theorem XP:(Tryz.prog.info? 41).map (fun i=>(i.zero,i.size,i.bytes))=some (some (.slice none 0 0),1,24):=by kernel_rfl
def VX (w:World) (n:Nat) (R:Option Dv) (r:Ending) (w':World):Prop:=
 Below w.heap.size w w'∧((∃S qa qc ad cp ra rc,R=some S∧r= .returned (.tuple #[.slice qa n qc,.slice ra S.r.length rc,.bool true])∧eH w' qa n qc ad (fun i=>(S.q i).length) cp (fun i=>lf (S.q i))∧RL w' ra rc S.r∧∀x,x<w.heap.size→NF ra S.r.length x)∨(R=none∧∃qa qc ra rc,r= .returned (.tuple #[.slice qa 0 qc,.slice ra 0 rc,.bool false])))
structure SW (w wr:World) (o:Int) (n:Nat) (ln:Nat→Nat) (f:Nat→Nat→T) (p:List T) (g i:Nat) (S:Dv) (pa:Option Addr) (pc:Nat) (ra:Option Addr) (rc:Nat) (ad:Nat→Option Addr) (cp:Nat→Nat):Prop where
 bel:Below w.heap.size w wr
 ok:iS i S
 rp:RL wr pa pc S.p
 rr:RL wr ra rc S.r
 q:QW wr g n S.q ad cp
 op:NF pa S.p.length g
 oq:NF ra S.r.length g
 run:eE o n ln f (300-i) S=eE o n ln f 300 (kP p)
 gl:g<wr.heap.size
 fr:∀x,x<w.heap.size→NF ra S.r.length x
theorem MS {o:Int} {ln:Nat→Nat} {f:Nat→Nat→T} {S:Dv} {k:Nat} {q:T} (h:KV o ln f S k=q):gH o ln f S k=if(mC S.p q (f k) (ln k)).2=true then some ⟨(mC S.p q (f k) (ln k)).1,kN S.q k (cG (S.q k) [q]),S.r⟩else none:=by
 unfold gH mC;rw[h];cases bN (lf [q]) (f k) (ln k) 1 with
 |none=>rfl
 |some Y=>
  by_cases hle:(bY S.p Y).length≤400
  ·simp[hle]
  ·simp[hle]
abbrev K6 (A b o:Nat) (t:T) (v:Value) (u:World):Prop:=u.cell? ⟨A,0,none⟩=some (.int .i64 t.c)∧u.cell? ⟨A,1,none⟩=some (.int .i64 t.m.x)∧u.cell? ⟨A,2,none⟩=some (.int .i64 t.m.y)∧u.cell? ⟨A,3,none⟩=some (.int .i64 t.m.d)∧u.cell? ⟨A,4,none⟩=some (.int .i64 t.m.e)∧u.cell? ⟨b,o,none⟩=some v
theorem K6.below {A b o:Nat} {t:T} {v:Value} {u u':World} (h:K6 A b o t v u) (hb:Below u.heap.size u u'):K6 A b o t v u':=
 ⟨(hb.cell (p:=⟨A,0,none⟩) (cQ u _ h.1)).trans h.1,(hb.cell (p:=⟨A,1,none⟩) (cQ u _ h.2.1)).trans h.2.1,(hb.cell (p:=⟨A,2,none⟩) (cQ u _ h.2.2.1)).trans h.2.2.1,(hb.cell (p:=⟨A,3,none⟩) (cQ u _ h.2.2.2.1)).trans h.2.2.2.1,(hb.cell (p:=⟨A,4,none⟩) (cQ u _ h.2.2.2.2.1)).trans h.2.2.2.2.1,(hb.cell (p:=⟨b,o,none⟩) (cQ u _ h.2.2.2.2.2)).trans h.2.2.2.2.2⟩
theorem rK {lo:Nat} {w:World} {a:Option Addr} {c g:Nat} {L:List T} (h:gX lo w a c L) (hg:g<lo):NF a L.length g:=h.2.2.imp id (fun⟨b,off,e,hb⟩ b' off' e'=>by rw[e]at e';cases e';omega)
theorem UB (w:World) (o:Int) (pa0:Option Addr) (AF:Nat) (p:List T) (a:Option Addr) (n cap:Nat) (ad0:Nat→Option Addr) (ln cp0:Nat→Nat) (f:Nat→Nat→T) (hp:RL w pa0 AF p) (h:eH w a n cap ad0 ln cp0 f) (o1:1≤o) (o2:o≤3) (hpo:cJ p=true) (hl:aW n ln f=true):Calls Tryz.prog 70 #[.int .i64 o,.slice pa0 p.length AF,.slice a n cap] w fun r w'=>VX w n (eE o n ln f 300 (kP p)) r w':=by
 obtain⟨i0,hi0,hz0,hz1,hz2⟩:=info_parts XP;have n12:=(aU hl).1
 have hnl:(n:Int)≤12:=by omega
 have hpl:=(aD hpo).1;have hpl':(p.length:Int)≤400:=by omega
 have HP:=aA hp;have HH:=aA h
 have HLO:=aA (aU hl).2
 have hq0:lE w.heap.size (w.alloc (.cells #[] 41)) (fun _=>[]) 0 (.slice (some ⟨w.heap.size,0,none⟩) 0 0) (fun _=>none) (fun _=>0) (fun _=>0):=
  ⟨⟨rfl,.inr ⟨w.heap.size,0,#[],rfl,Nat.le_refl _,heap_alloc_new w (.cells #[] 41),Nat.le_refl _,Nat.zero_le _,rfl,rfl⟩⟩,fun i hi=>by omega,fun i k _ hk=>by omega,by simp⟩
 have HQ0:=aA hq0;clear hp h hq0;go_enter Tryz.func70,Tryz.ntmps70;go_wp2;go_loopw [9,10] (fun tv ii wr=>∃(j:Nat) (ad:Nat→Option Addr) (cp B:Nat→Nat) (g c:Nat),j≤n∧ii= .int .i64 (j:Int)∧tv= .slice (some ⟨g,0,none⟩) j c∧j≤c∧Below w.heap.size w wr∧lE w.heap.size wr (fun _=>[]) j tv ad cp B) (fun _ ii _=>n-(intOf ii).toNat);case atStart=>exact⟨0,_,_,_,_,_,Nat.zero_le _,rfl,rfl,Nat.le_refl _,aC _ _,HQ0.out⟩
 case round=>
  obtain⟨j,ad,cp,B,g,c,hj,rfl,rfl,hjc,hB,hA⟩:=hrel;have HB:=aA hB
  have HA:=aA hA;have hgl:g<wr.heap.size:=(hA.row.lt g rfl).2
  have hgw:w.heap.size≤g:=(hA.row.lt g rfl).1;by_cases hlt:j<n
  ·have hjn:(j:Int)<(n:Int):=by omega
   have hb1:=aC wr (.cells #[] 86);have HA1:=aA (hA.below hb1)
   have HB1:=aA (aB hB hb1);have hsz0:w.heap.size≤wr.heap.size:=hB.size
   have HO1:Hid (gX wr.heap.size (wr.alloc (.cells #[] 86)) (some ⟨wr.heap.size,0,none⟩) 0 ([]:List T)):=⟨⟨Nat.le_refl _,by simp,.inl rfl⟩,.inl rfl,.inl rfl⟩
   have hnew:=heap_alloc_new (wr.alloc (.cells #[] 86)) (.cells #[.slice (some ⟨wr.heap.size,0,none⟩) 0 0] 41);rw[World.size_alloc]at hnew;have HN:=aA hnew
   have hrow:=HA1.out.row.alloc (.cells #[.slice (some ⟨wr.heap.size,0,none⟩) 0 0] 41);have hnews:∀jj u,[Value.slice (some ⟨wr.heap.size,0,none⟩) 0 0][jj]? =some u→((wr.alloc (.cells #[] 86)).alloc (.cells #[.slice (some ⟨wr.heap.size,0,none⟩) 0 0] 41)).cell? ((⟨wr.heap.size+1,0,none⟩:Addr).add jj)=some u:=World.news_of_block HN.out
   have hone:∀u∈[Value.slice (some ⟨wr.heap.size,0,none⟩) 0 0],u.oneCell'=true:=fun u hu=>by
    have:u= .slice (some ⟨wr.heap.size,0,none⟩) 0 0:=by simpa using hu
    subst this;rfl
   have hbase:w.heap.size≤((wr.alloc (.cells #[] 86)).alloc (.cells #[.slice (some ⟨wr.heap.size,0,none⟩) 0 0] 41)).heap.size:=by simp;omega
   have hmax:j+1≤maxLen:=by unfold maxLen;omega
   have HMR:Hid (∀k,(Value.slice (some ⟨g,0,none⟩) j c).ownBlock=some k→k<wr.heap.size):=fun k e=>(hA.row.lt k e).2;clear hA hB hb1 hnew;go_wp2_with (at_builtin;refine wpList_append_lies _ rfl (.tmp 25) (.tmp 27) 24 rfl w.heap.size 41 i0 _ 1 24 Tryz.underlying24 hi0 hz0 hz1 hz2 rfl (by omega) _ j (xH ad (fun i=>((fun _=>[]) i:List T).length) cp j) rfl hrow ⟨wr.heap.size+1,0,none⟩ 1 1 [.slice (some ⟨wr.heap.size,0,none⟩) 0 0] rfl rfl hnews hone (by omega) hmax (by omega) hbase _ rfl ?_;intro g0 cap0 w5 hown1 hgrow hat hlt1;have HR:=aA (HA1.out.round (m:=wr.heap.size) (fun i hi h0=>absurd rfl h0) HMR.out hsz0 HO1.out hgrow hown1 (hat.imp id (fun e=>e.trans (by simp))) hlt1);have HB5:=aA ((HB1.out.alloc HB1.out.size _).grown hgrow hbase (fun k e=>(HA1.out.row.lt k e).1));have hcc:j+1≤cap0:=(by rcases hown1.2 with⟨e,_⟩|⟨g',cap',cur,e,_,_,hh,_⟩;(cases e);(cases e;exact hh));clear hown1 hgrow hat hlt1 hrow);go_roundw;case rel=>exact⟨j+1,_,_,_,g0,cap0,by omega,by go_num,rfl,hcc,HB5.out,HR.out⟩
   case measure=>simp[intOf];omega
  ·have hjn:¬(j:Int)<(n:Int):=by omega
   have hje:j=n:=by omega
   subst hje
   have hst:SW w (wr.alloc (.cells #[] 86)) o j ln f p g 0 (kP p) pa0 AF (some ⟨wr.heap.size,0,none⟩) 0 ad cp:=
    ⟨aB hB (aC _ _),iS.start hpo,(HP.out.below hB).below (aC _ _),⟨Nat.le_refl _,by simp[kP],.inl rfl⟩,hA.qw.below (aC _ _),HP.out.under.imp id (fun hh b off e=>by have:=hh b off e;omega),.inl rfl,rfl,by simp;omega,fun _ _=>.inl rfl⟩
   have HST:=aA hst;clear hA hB hst;obtain⟨W9,hW9⟩:∃W9,wr.heap.size=W9:=⟨_,rfl⟩
   rw[hW9]at HST;go_wp2
   (try rw[hW9])
   go_loopw [1,11,12] (fun pv rv ii wq=>∃(i:Nat) (S:Dv) (pa:Option Addr) (pc:Nat) (ra:Option Addr) (rc:Nat) (ad:Nat→Option Addr) (cp:Nat→Nat),i≤300∧ii= .int .i64 (i:Int)∧pv= .slice pa S.p.length pc∧rv= .slice ra S.r.length rc∧SW w wq o j ln f p g i S pa pc ra rc ad cp) (fun _ _ ii _=>300-(intOf ii).toNat);case atStart=>exact⟨0,kP p,pa0,AF,_,0,ad,cp,by omega,rfl,rfl,rfl,HST.out⟩
   case round=>
    obtain⟨i,S,pa,pc,ra,rc,ad,cp,hi,rfl,rfl,rfl,hS⟩:=hrel;have HS:=aA hS
    have HK:=aA hS.ok;have hil:(i:Int)≤300:=by omega
    have hSp:=(aD hS.ok.p).1;have hSp':(S.p.length:Int)≤400:=by omega
    have hSr:=hS.ok.r.2;have hSr':(S.r.length:Int)≤300:=by omega
    by_cases h0:S.p.length=0
    ·have HE:=aA (hS.run.symm.trans (mK h0));have HF:Hid (VX w j (some S) (.returned (.tuple #[.slice (some ⟨g,0,none⟩) j c,.slice ra S.r.length rc,.bool true])) wr):=⟨hS.bel,.inl ⟨S,_,_,ad,cp,ra,rc,rfl,rfl,hS.q.rds n12 hjc,hS.rr,hS.fr⟩⟩
     have hp0:(S.p.length:Int)=0:=by omega
     have hg4:¬(400:Int)<(S.r.length:Int):=by omega
     rw[h0];clear hS h0 hSp;by_cases hi3:i<300
     ·have hic:(i:Int)<300:=by omega
      go_wp2;refine cV (results_tmp3 rfl _ _ _) rfl ?_;rw[HE.out];exact HF.out
     ·have hic:¬(i:Int)<300:=by omega
      go_wp2;refine cV (results_tmp3 rfl _ _ _) rfl ?_;rw[HE.out];exact HF.out
    ·have hp0:(0:Int)<(S.p.length:Int):=by omega
     by_cases hi3:i<300
     ·have hic:(i:Int)<300:=by omega
      obtain⟨t,ht⟩:∃t,dD o S.p=t:=⟨_,rfl⟩
      have fp:=(aD hS.ok.p).2;have hg1:=iV (o:=o) fp h0
      have hmm:=jL (o:=o) h0;rw[ht]at hg1 hmm;have hlead:Calls Tryz.prog 113 #[.int .i64 o,.slice pa S.p.length pc] wr fun r w'=>r= .returned (.agg #[.int .i64 t.c,.int .i64 t.m.x,.int .i64 t.m.y,.int .i64 t.m.d,.int .i64 t.m.e])∧Below wr.heap.size wr w':=by have:=rI wr o pa S.p.length pc (lf S.p) hS.rp (by omega) (fun i hi=>(fp.2 _ (lK hi)).1);rw[show lf S.p (aT o (lf S.p) S.p.length)=t from ht]at this;exact this
      have HLE:=aA hlead;have hrun:eE o j ln f (300-(i+1)+1) S=eE o j ln f 300 (kP p):=by rw[show 300-(i+1)+1=300-i by omega];exact hS.run
      have HRUN:=aA hrun;have HT:=aA ht
      have HG:=aA hg1;have HM:=aA hmm
      have HFP:=aA fp;clear hS hlead hrun ht hmm fp;go_wp2_with fail;refine HLE.out.mono ?_;rintro r w1 ⟨rfl,hb1⟩;have HB1:=aA (aB hb1 (aC w1 (.cells #[.int .i64 t.c,.int .i64 t.m.x,.int .i64 t.m.y,.int .i64 t.m.d,.int .i64 t.m.e] 86)))
      have HC1:=aA (C5.box w1 86 t);clear hb1 HLE;obtain⟨z,hz⟩:∃z,vA o j ln f t.m=z:=⟨_,rfl⟩
      have HZ:=aA hz;have hfind:=fun W hW=>UC W o a j cap ad0 ln cp0 f t.m hW HLO.out
      rw[hz]at hfind;have HFI:=aA hfind
      clear hz hfind;go_wp2_with fail;refine(HFI.out _ ((HH.out.below HS.out.bel).below HB1.out)).mono ?_;rintro r w2 ⟨rfl,hb2⟩;have HB2:=aA (aB HB1.out hb2)
      obtain⟨y0,y1,y2,y3,y4⟩:=HC1.out.below hb2;have HC2:=aA (HC1.out.below hb2)
      have hl2:w1.heap.size<w2.heap.size:=cQ w2 _ y0;clear hb2 HB1 HC1 HFI;by_cases hzz:0≤z
      ·obtain⟨k,hk⟩:∃k:Nat,z=(k:Int):=⟨z.toNat,by omega⟩
       subst hk;have hfk:(vA o j ln f t.m).toNat=k:=by rw[HZ.out];simp
       have hd:=jT (o:=o) (n:=j) (ln:=ln) (f:=f) (m:=t.m) (by rw[HZ.out];exact hzz);rw[hfk]at hd;obtain⟨hkj,hdv⟩:=hd;have hkjc:(k:Int)<(j:Int):=by omega
       have HSTP:Hid (cU o j ln f S=gH o ln f S k):=by show cU o j ln f S=_;unfold cU;rw[HT.out,if_pos (by rw[HZ.out];exact hzz),hfk]
       have hlg:=sO (o:=o) hl hkj;obtain⟨q,hqe⟩:∃q,eK t (kS o ln f k)=q:=⟨_,rfl⟩
       have hqg:=pZ HG.out hlg hdv;rw[hqe]at hqg;have HQG:=aA hqg
       have HD:Hid (KV o ln f S k=q):=by show KV o ln f S k=q;unfold KV;rw[HT.out,hqe]
       obtain⟨hk0,hpk⟩:=HLO.out k hkj;obtain⟨b1,off1,ea,hb1,hc1⟩:=HH.out.2.2.1.resolve_left (by omega);have kc:w2.cell? ⟨b1,off1+k,none⟩=some (.slice (ad0 k) (ln k) (cp0 k)):=((aB HS.out.bel HB2.out).cell (p:=⟨b1,off1+k,none⟩) hb1).trans (hc1 k hkj)
       have hb2':b1<w2.heap.size:=cQ w2 _ kc;have hover:∀W:World,Rd W (ad0 k) (ln k) (cp0 k) (f k)→Calls Tryz.prog 114 #[.int .i64 o,.agg #[.int .i64 t.c,.int .i64 t.m.x,.int .i64 t.m.y,.int .i64 t.m.d,.int .i64 t.m.e],.slice (ad0 k) (ln k) (cp0 k)] W fun r w'=>r= .returned (.agg #[.int .i64 q.c,.int .i64 q.m.x,.int .i64 q.m.y,.int .i64 q.m.d,.int .i64 q.m.e])∧Below W.heap.size W w':=fun W hW=>by have:=zQ W o t (ad0 k) (ln k) (cp0 k) (f k) hW (by omega) (fun i hi=>((dR hpk).2 i hi).1) (by have:=HG.out.2;omega) HG.out.2.2;rw[show eK t (f k (aT o (f k) (ln k)))=q from hqe]at this;exact this
       have HOV:=aA hover;have HPK:=aA hpk
       have HC1:=aA hc1;clear hover hqe hfk hdv hlg hqg hc1 hpk hzz;subst ea;go_wp2_with fail;have HRD:=aA ((((HH.out.below (aB HS.out.bel HB2.out)).below (bQ _ w2).drew)).2.2.2 k hkj)
       have HRA:=aA ((((HH.out.below (aB HS.out.bel HB2.out)).below (aC w2 (.cells #[.int .i64 0,.int .i64 0,.int .i64 0,.int .i64 0,.int .i64 0] 86))).below (bQ _ _).drew).2.2.2 k hkj);have HZA:Hid (∀v:World,Below (w2.alloc (.cells #[.int .i64 0,.int .i64 0,.int .i64 0,.int .i64 0,.int .i64 0] 86)).drew.heap.size (w2.alloc (.cells #[.int .i64 0,.int .i64 0,.int .i64 0,.int .i64 0,.int .i64 0] 86)).drew v→bH v w2.heap.size ⟨0,⟨0,0,0,0⟩⟩):=fun v hv=>((bH.box w2 86 ⟨0,⟨0,0,0,0⟩⟩).below (bQ _ _).drew).below hv
       refine Code.wp_mono (Q:=NoPanic fun e a v=>e=Exit.normal∧∃(gq:Nat),a={tmps:=#[.int .i64 o,.slice pa S.p.length pc,.slice (some ⟨b1,off1,none⟩) j cap,undef,undef,undef,u6,u7,u8,.slice (some ⟨g,0,none⟩) j c,.int .i64 (j:Int),.slice ra S.r.length rc,.int .i64 (i:Int),.pointer (some ⟨w1.heap.size,0,none⟩),.int .i64 (k:Int),.pointer (some ⟨gq,0,none⟩),u16,u17,.slice (some ⟨w.heap.size,0,none⟩) 0 0,.int .i64 (j:Int),.slice (some ⟨b1,off1,none⟩) j cap,.int .i64 (j:Int),.bool false,u23,u24,u25,u26,u27,u28,.slice (some ⟨W9,0,none⟩) 0 0,.int .i64 (i:Int),.bool true,.bool true,.slice pa S.p.length pc,.int .i64 (S.p.length:Int),.bool true,.bool true,u37,u38,.int .i64 o,.slice pa S.p.length pc,.agg #[.int .i64 t.c,.int .i64 t.m.x,.int .i64 t.m.y,.int .i64 t.m.d,.int .i64 t.m.e],.int .i64 o,.slice (some ⟨b1,off1,none⟩) j cap,.pointer (some ⟨w1.heap.size,1,none⟩),.agg #[.int .i64 t.m.x,.int .i64 t.m.y,.int .i64 t.m.d,.int .i64 t.m.e],.int .i64 (k:Int),.int .i64 (k:Int),.bool (decide ((k:Int)<0)),u49,u50,u51,u52,u53,u54,u55,u56,u57,u58,u59,u60,u61,.int .i64 o,.agg #[.int .i64 t.c,.int .i64 t.m.x,.int .i64 t.m.y,.int .i64 t.m.d,.int .i64 t.m.e],.slice (some ⟨b1,off1,none⟩) j cap,.int .i64 (k:Int),.pointer (some ⟨b1,off1+k,none⟩),.slice (ad0 k) (ln k) (cp0 k),.agg #[.int .i64 q.c,.int .i64 q.m.x,.int .i64 q.m.y,.int .i64 q.m.d,.int .i64 q.m.e],u69,u70,u71,u72,u73,u74,u75,u76,u77,u78,u79,u80,u81,u82,u83,u84,u85,u86,u87,u88,u89,u90,u91,u92,u93,undef,undef,undef,undef,undef,undef,undef,undef,undef,undef,undef,undef],defers:=[]}∧C5 v gq q∧Below w2.heap.size w2 v∧w2.heap.size≤gq) ?_ ?_;rotate_left
       ·go_region_with (go_at_call 114;refine(HOV.out _ ?_).mono ?_;(first|with_reducible exact HRD.out|with_reducible exact HRA.out);rintro r w4 ⟨rfl,hb4⟩;(try(have hz4:=HZA.out _ hb4;obtain⟨⟨z0,z1,z2,z3,z4⟩,zf⟩:=hz4));(have HB4:Hid (Below w2.heap.size w2 w4):=by first|exact aB (bQ _ w2).drew hb4|exact aB (aC w2 (.cells #[.int .i64 0,.int .i64 0,.int .i64 0,.int .i64 0,.int .i64 0] 86)).drew hb4);clear hb4)
        all_goals
         first
         |exact NoPanic.normal ⟨rfl,_,rfl,⟨by go_simp,by go_simp,by go_simp,by go_simp,by go_simp⟩,bC HB4.out (Nat.le_refl _) _ _ _ _ _,Nat.le_refl _⟩
         |exact NoPanic.normal ⟨rfl,_,rfl,C5.box w4 86 q,HB4.out.alloc HB4.out.size _,HB4.out.size⟩
       ·intro e5 a5 w5 hq5;obtain⟨rfl,gq,rfl,hcq,hb5,hgl2⟩:=NoPanic.imp _ _ _ hq5;have hgne:gq≠g:=by have:=HB2.out.size;have:=HS.out.gl;omega
        have HB5:=aA (aB HB2.out hb5);have HCQ:=aA hcq
        have HQ5:=aA (HS.out.q.below HB5.out);have kg:=HQ5.out.cell k hkj
        have kz:=HQ5.out.fz k hkj;have hgq:=hcq.lt
        obtain⟨x0,x1,x2,x3,x4⟩:=hcq;have hgl5:g<w5.heap.size:=cQ w5 _ kg
        have c1:Hid (∀i,i<(S.q k).length→0≤(lf (S.q k) i).c∧(lf (S.q k) i).c≤100):=fun i hi=>by have:=(HK.out.q k).1.2 _ (lK hi);omega
        have c2:Hid (∀i,i<1→0≤(lf [q] i).c∧(lf [q] i).c≤100):=fun i hi=>by
         obtain rfl:i=0:=by omega
         have:=HQG.out.2;exact⟨by show 0≤q.c;omega,this.2⟩
        have hqk:=(HK.out.q k).2;have hadd:Calls Tryz.prog 118 #[.slice (ad k) (S.q k).length (cp k),.slice (some ⟨w5.heap.size,0,none⟩) 1 1] (w5.alloc (.cells #[.int .i64 q.c,.int .i64 q.m.x,.int .i64 q.m.y,.int .i64 q.m.d,.int .i64 q.m.e] 86)).drew fun r w'=>∃qa qc,r= .returned (.slice qa (cG (S.q k) [q]).length qc)∧Below (w5.alloc (.cells #[.int .i64 q.c,.int .i64 q.m.x,.int .i64 q.m.y,.int .i64 q.m.d,.int .i64 q.m.e] 86)).drew.heap.size (w5.alloc (.cells #[.int .i64 q.c,.int .i64 q.m.x,.int .i64 q.m.y,.int .i64 q.m.d,.int .i64 q.m.e] 86)).drew w'∧gX (w5.alloc (.cells #[.int .i64 q.c,.int .i64 q.m.x,.int .i64 q.m.y,.int .i64 q.m.d,.int .i64 q.m.e] 86)).drew.heap.size w' qa qc (cG (S.q k) [q]):=by
         refine(nV (w5.alloc (.cells #[.int .i64 q.c,.int .i64 q.m.x,.int .i64 q.m.y,.int .i64 q.m.d,.int .i64 q.m.e] 86)).drew (ad k) (some ⟨w5.heap.size,0,none⟩) (S.q k).length (cp k) 1 1 (lf (S.q k)) (lf [q]) (((HQ5.out.rd k hkj).below (aC _ _)).below (bQ _ _).drew) (Rd.below (fQ w5 q) (bQ _ _).drew) (by omega) c1.out c2.out).mono ?_;rw[show fG (lf (S.q k)) (S.q k).length (lf [q]) 1 0 0=cG (S.q k) [q]from rfl];rintro r w6 ⟨v6,rfl,hb6,ho6⟩;have hal:=nN (S.q k) [q]
         simp only[List.length_singleton]at hal;obtain⟨qa,qc,rfl,hO6⟩:=aM ho6 (by omega);exact⟨qa,qc,rfl,hb6,hO6⟩
        have HAD:=aA hadd;have HKK:Hid (∀v:World,Below (w5.alloc (.cells #[.int .i64 q.c,.int .i64 q.m.x,.int .i64 q.m.y,.int .i64 q.m.d,.int .i64 q.m.e] 86)).drew.heap.size (w5.alloc (.cells #[.int .i64 q.c,.int .i64 q.m.x,.int .i64 q.m.y,.int .i64 q.m.d,.int .i64 q.m.e] 86)).drew v→v.cell? ⟨g,k,none⟩=some (.slice (ad k) (S.q k).length (cp k))∧v.frozen? ⟨g,k,none⟩=false):=fun v hv=>⟨((HQ5.out.below (aB (aC w5 (.cells #[.int .i64 q.c,.int .i64 q.m.x,.int .i64 q.m.y,.int .i64 q.m.d,.int .i64 q.m.e] 86)).drew hv)).cell k hkj),((HQ5.out.below (aB (aC w5 (.cells #[.int .i64 q.c,.int .i64 q.m.x,.int .i64 q.m.y,.int .i64 q.m.d,.int .i64 q.m.e] 86)).drew hv)).fz k hkj)⟩
        clear hq5 hb5 HRD HRA HZA HOV kc y0 y1 y2 y3 y4 hadd;go_wp2_with fail
        go_region_with (go_at_call 118;refine HAD.out.mono ?_;rintro r w6 ⟨qa,qc,rfl,hb6,hO6⟩;obtain⟨kg6,kz6⟩:=HKK.out _ hb6;have HB6:=aA hb6;have HO6:=aA hO6;clear hb6 hO6)
        all_goals
         have hw6:w5.heap.size+1≤w6.heap.size:=by have:=HB6.out.size;simpa using this
         have HBX:=aA (aB (aB HB5.out (aC w5 (.cells #[.int .i64 q.c,.int .i64 q.m.x,.int .i64 q.m.y,.int .i64 q.m.d,.int .i64 q.m.e] 86)).drew) HB6.out);have HOF:=aA (rK HO6.out (g:=g) (by simp;omega))
         have HQ7:=aA ((HQ5.out.below (aB (aC w5 (.cells #[.int .i64 q.c,.int .i64 q.m.x,.int .i64 q.m.y,.int .i64 q.m.d,.int .i64 q.m.e] 86)).drew HB6.out)).put hkj HO6.out.1 HOF.out);have hs7:=Ca w6 g k (.slice qa (cG (S.q k) [q]).length qc)
         have HB7:=aA ((aB HS.out.bel HBX.out).setCell (p:=⟨g,k,none⟩) (by show w.heap.size≤g;omega) (.slice qa (cG (S.q k) [q]).length qc));have HP7:=aA (HS.out.op.rd (HS.out.rp.below HBX.out) hs7)
         have HR7:=aA (HS.out.oq.rd (HS.out.rr.below HBX.out) hs7);have hcq6:=(HCQ.out.below (aB (aC w5 (.cells #[.int .i64 q.c,.int .i64 q.m.x,.int .i64 q.m.y,.int .i64 q.m.d,.int .i64 q.m.e] 86)).drew HB6.out))
         have hbg:b1≠g:=by omega
         have hS7:K6 gq b1 (off1+k) q (.slice (ad0 k) (ln k) (cp0 k)) (w6.setCell ⟨g,k,none⟩ (.slice qa (cG (S.q k) [q]).length qc)).drew:=
          ⟨(nC (w:=w6) (a:=⟨gq,0,none⟩) (Below.heap_setCell _ _ _ _ hgne)).trans hcq6.1,(nC (w:=w6) (a:=⟨gq,1,none⟩) (Below.heap_setCell _ _ _ _ hgne)).trans hcq6.2.1,(nC (w:=w6) (a:=⟨gq,2,none⟩) (Below.heap_setCell _ _ _ _ hgne)).trans hcq6.2.2.1,(nC (w:=w6) (a:=⟨gq,3,none⟩) (Below.heap_setCell _ _ _ _ hgne)).trans hcq6.2.2.2.1,(nC (w:=w6) (a:=⟨gq,4,none⟩) (Below.heap_setCell _ _ _ _ hgne)).trans hcq6.2.2.2.2,(HB7.out.cell (p:=⟨b1,off1+k,none⟩) hb1).trans (HC1.out k hkj)⟩
         have hgl7:g<(w6.setCell ⟨g,k,none⟩ (.slice qa (cG (S.q k) [q]).length qc)).heap.size:=by have:=hs7.size;omega
         have HLW:=aA (HH.out.below HB7.out);clear hcq6 hs7 HBX HB6 HO6 HAD HKK kg6 kz6 HQ5 HCQ x0 x1 x2 x3 x4 kg kz hw6;generalize(w6.setCell ⟨g,k,none⟩ (.slice qa (cG (S.q k) [q]).length qc))=w7 at HQ7 HB7 HP7 HR7 hS7 hgl7 HLW⊢;have hless:=IK w7.drew pa pc S.p q (ad0 k) (ln k) (cp0 k) (f k) (Rd.below HP7.out (bQ _ w7).drew) hSp HFP.out HQG.out ((HLW.out.2.2.2 k hkj).below (bQ _ w7).drew) HPK.out
         have htl:=MS (o:=o) (S:=S) HD.out;obtain⟨K,hK⟩:∃K,mC S.p q (f k) (ln k)=K:=⟨_,rfl⟩
         have hKl:=LK S.p q (f k) (ln k);rw[hK]at hless htl hKl;have HLESS:=aA hless
         have HTL:=aA htl;clear hless htl hK;go_wp2_with fail
         go_region_held3 (fun u=>u.cell? ⟨gq,0,none⟩=some (.int .i64 q.c)∧u.cell? ⟨gq,1,none⟩=some (.int .i64 q.m.x)∧u.cell? ⟨gq,2,none⟩=some (.int .i64 q.m.y)∧u.cell? ⟨gq,3,none⟩=some (.int .i64 q.m.d)∧u.cell? ⟨gq,4,none⟩=some (.int .i64 q.m.e)∧u.cell? ⟨b1,off1+k,none⟩=some (.slice (ad0 k) (ln k) (cp0 k))) (first|with_reducible exact hS7|with_reducible exact K6.below hS7 hb8) (first|(go_at_call 116;refine HLESS.out.mono ?_;rintro r w8 ⟨v8,rfl,hb8,ho8⟩))
         have hbb:Below w7.heap.size w7 w8:=aB (bQ _ w7).drew hb8;obtain⟨pa',pc',rfl,hO8⟩:=aM ho8 (by omega);obtain⟨KL,kb⟩:=K;have HB8:=aA (HB7.out.trans (hbb.mono HB7.out.size))
         cases kb
         ·have HNO:Hid (eE o j ln f 300 (kP p)=none):=by show eE o j ln f 300 (kP p)=none;rw[←HRUN.out];exact qS h0 (HSTP.out.trans HTL.out)
          clear hb8 ho8 hO8 hbb hS7 HLESS;go_wp2;refine cV (results_tmp3 rfl _ _ _) rfl ?_;rw[HNO.out];exact⟨(HB8.out.alloc HB8.out.size _).alloc (by have:=HB8.out.size;simp;omega) _,.inr ⟨rfl,_,_,_,_,rfl⟩⟩
         ·have hstp:cU o j ln f S=some ⟨KL,kN S.q k (cG (S.q k) [q]),S.r⟩:=HSTP.out.trans HTL.out
          have HST2:Hid (SW w w8 o j ln f p g (i+1) ⟨KL,kN S.q k (cG (S.q k) [q]),S.r⟩ pa' pc' ra rc (fun i=>if i=k then qa else ad i) (fun i=>if i=k then qc else cp i)):=
           ⟨HB8.out,lT hl HK.out h0 hstp,hO8.1,HR7.out.below hbb,HQ7.out.below hbb,rK hO8 hgl7,HS.out.oq,(kE h0 hstp).symm.trans HRUN.out,iZ hgl7 hbb.size,HS.out.fr⟩
          clear hb8 ho8 hO8 hbb hS7 HLESS hstp;go_wp2;go_roundw;case rel=>exact⟨i+1,⟨KL,kN S.q k (cG (S.q k) [q]),S.r⟩,pa',pc',ra,rc,_,_,by omega,by go_num,rfl,rfl,HST2.out⟩
          case measure=>simp[intOf];omega
      ·have hzl:z<0:=by omega
       have HSTP:Hid (cU o j ln f S=some (gO o S)):=by show cU o j ln f S=_;unfold cU;rw[HT.out,if_neg (by rw[HZ.out];exact hzz)]
       have HOK2:=aA (lT hl HK.out h0 HSTP.out);have HRUN2:=aA ((kE h0 HSTP.out).symm.trans HRUN.out)
       have HDL:Hid (gO o S=⟨bY S.p [t],S.q,cG S.r [t]⟩):=by show gO o S=_;unfold gO;rw[HT.out]
       rw[HDL.out]at HOK2 HRUN2;clear HDL HSTP;have c1:Hid (∀i,i<S.r.length→0≤(lf S.r i).c∧(lf S.r i).c≤100):=fun i hi=>by have:=HK.out.r.1.2 _ (lK hi);omega
       have c2:Hid (∀i,i<S.p.length→0≤(lf S.p i).c∧(lf S.p i).c≤100):=fun i hi=>by have:=HFP.out.2 _ (lK hi);omega
       have c3:Hid (∀i,i<1→0≤(lf [t] i).c∧(lf [t] i).c≤100):=fun i hi=>by
        obtain rfl:i=0:=by omega
        have:=HG.out.2;exact⟨by show 0≤t.c;omega,this.2⟩
       have c4:Hid (∀i,i<1→0≤(lf [(⟨101-t.c,t.m⟩:T)] i).c∧(lf [(⟨101-t.c,t.m⟩:T)] i).c≤100):=fun i hi=>by
        obtain rfl:i=0:=by omega
        have:=HG.out.2;exact⟨by show 0≤101-t.c;omega,by show 101-t.c≤100;omega⟩
       have HA1:=aA (nV (w2.alloc (.cells #[.int .i64 t.c,.int .i64 t.m.x,.int .i64 t.m.y,.int .i64 t.m.d,.int .i64 t.m.e] 86)) ra (some ⟨w2.heap.size,0,none⟩) S.r.length rc 1 1 (lf S.r) (lf [t]) ((HS.out.rr.below HB2.out).below (aC _ _)) (fQ w2 t) (by omega) c1.out c3.out);go_wp2_with fail;refine HA1.out.mono ?_;rw[show fG (lf S.r) S.r.length (lf [t]) 1 0 0=cG S.r [t]from rfl];rintro r w3 ⟨v3,rfl,hb3,ho3⟩;have hal:=nN S.r [t]
       simp only[List.length_singleton]at hal;obtain⟨ra',rc',rfl,hO3⟩:=aM ho3 (by omega);have HB3:=aA (aB (aB HB2.out (aC w2 (.cells #[.int .i64 t.c,.int .i64 t.m.x,.int .i64 t.m.y,.int .i64 t.m.d,.int .i64 t.m.e] 86))) hb3)
       obtain⟨x0,x1,x2,x3,x4⟩:=(HC2.out.below (aC w2 (.cells #[.int .i64 t.c,.int .i64 t.m.x,.int .i64 t.m.y,.int .i64 t.m.d,.int .i64 t.m.e] 86))).below hb3;have hl3:w1.heap.size<w3.heap.size:=cQ w3 _ x0
       have hgl3:g<w2.heap.size+1:=by have:=HB2.out.size;have:=HS.out.gl;omega
       have HO3:=aA hO3;have HF3:=aA (rK hO3 (g:=g) (by simp;omega))
       have HFR:Hid (∀x,x<w.heap.size→NF ra' (cG S.r [t]).length x):=fun x hx=>rK hO3 (g:=x) (by have:=HB2.out.size;have:=HS.out.bel.size;simp;omega);have HA2:=aA (nV (w3.alloc (.cells #[.int .i64 (101-t.c),.int .i64 t.m.x,.int .i64 t.m.y,.int .i64 t.m.d,.int .i64 t.m.e] 86)) pa (some ⟨w3.heap.size,0,none⟩) S.p.length pc 1 1 (lf S.p) (lf [(⟨101-t.c,t.m⟩:T)]) ((HS.out.rp.below HB3.out).below (aC _ _)) (fQ w3 ⟨101-t.c,t.m⟩) (by omega) c2.out c4.out)
       have hc1:=HG.out.2.1;have hc2:=HG.out.2.2
       clear y0 y1 y2 y3 y4 hb3 ho3 hO3 HA1;go_wp2_with fail;refine HA2.out.mono ?_;rw[show fG (lf S.p) S.p.length (lf [(⟨101-t.c,t.m⟩:T)]) 1 0 0=bY S.p [t]from UV HG.out.2 S.p];rintro r w4 ⟨v4,rfl,hb4,ho4⟩;have hsl:=uA HFP.out HM.out
       obtain⟨pa',pc',rfl,hO4⟩:=aM ho4 (by omega);have HST2:Hid (SW w w4 o j ln f p g (i+1) ⟨bY S.p [t],S.q,cG S.r [t]⟩ pa' pc' ra' rc' ad cp):=by have hbb:Below wr.heap.size wr w4:=aB (aB HB3.out (aC w3 _)) hb4;exact⟨aB HS.out.bel hbb,HOK2.out,hO4.1,(HO3.out.1.below (aC w3 _)).below hb4,HS.out.q.below hbb,rK hO4 (by have:=HB3.out.size;have:=HS.out.gl;simp;omega),HF3.out,HRUN2.out,iZ HS.out.gl hbb.size,HFR.out⟩
       clear x0 x1 x2 x3 x4 hb4 ho4 hO4 HA2 HOK2 HRUN2;go_wp2;go_roundw;case rel=>exact⟨i+1,_,pa',pc',ra',rc',ad,cp,by omega,by go_num,rfl,rfl,HST2.out⟩
       case measure=>simp[intOf];omega
     ·have hic:¬(i:Int)<300:=by omega
      obtain rfl:i=300:=by omega
      have HE:=aA (hS.run.symm.trans (xR h0));have HBW:=aA hS.bel
      clear hS;go_wp2;refine cV (results_tmp3 rfl _ _ _) rfl ?_;rw[HE.out];exact⟨(HBW.out.alloc HBW.out.size _).alloc (by have:=HBW.out.size;simp;omega) _,.inr ⟨rfl,_,_,_,_,rfl⟩⟩
open Go.RowKit Go.Deep Go.Joins Go.Maps
def QU (n:Nat):Option Dv→Nat
 |some _=>n
 |none=>0
def YL:Option Dv→Nat→List T
 |some S=>S.q
 |none=>fun _=>[]
def YK:Option Dv→List T
 |some S=>S.r
 |none=>[]
theorem QR (w:World) (o:Int) (pa:Option Addr) (pc:Nat) (p:List T) (a:Option Addr) (n cap:Nat) (ad:Nat→Option Addr) (ln cp:Nat→Nat) (f:Nat→Nat→T) (hp:RL w pa pc p) (h:eH w a n cap ad ln cp f) {R:Option Dv} (hR:dA o p n ln f=R):Calls Tryz.prog 56 #[.int .i64 o,.slice pa p.length pc,.slice a n cap] w fun r w'=>∃qa qc ad cp Rb B la lc mid,r= .returned (.tuple #[.slice qa (QU n R) qc,.slice la (YK R).length lc,.bool R.isSome])∧Below w.heap.size w w'∧dV w.heap.size w' qa (QU n R) qc ad (fun i=>(YL R i).length) cp (fun i=>lf (YL R i)) Rb B∧gX mid w' la lc (YK R)∧(QU n R=0∨Rb<mid)∧(∀i,i<QU n R→(YL R i).length≠0→B i<mid)∧w.heap.size≤mid:=by
 refine(VE w o pa pc p a n cap ad ln cp f hp h).mono ?_;rw[hR];rintro r w' ⟨hb,⟨S,qa,qc,ad,cp,Rb,B,la,lc,mid,rfl,rfl,h1,h2,h3,h4,h5⟩|⟨rfl,rfl⟩⟩
 ·exact⟨qa,qc,ad,cp,Rb,B,la,lc,mid,rfl,hb,h1,h2,h3,h4,h5⟩
 ·exact⟨none,0,fun _=>none,fun _=>0,0,fun _=>0,none,0,w.heap.size,rfl,hb,⟨⟨Nat.le_refl _,Nat.zero_le _,.inl rfl,fun i hi=>absurd hi (EZ _)⟩,.inl rfl,fun i hi=>absurd hi (EZ _),fun i hi=>absurd hi (EZ _),fun i j _ hj=>absurd hj (EZ _)⟩,⟨⟨Nat.le_refl _,Nat.zero_le _,.inl rfl⟩,.inl rfl,.inl rfl⟩,.inl rfl,fun i hi=>absurd hi (EZ _),Nat.le_refl _⟩
end Go.Proofs.YtelkehjdfcoeiaaGreat
