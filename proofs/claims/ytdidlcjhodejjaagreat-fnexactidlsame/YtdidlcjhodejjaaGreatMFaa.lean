/-
  The least basis, as lists: who is needed, in which order, and what is left of each by the others.
-/
import Derived.Test.YtdidlcjhodejjaaGreatMCaa
import Derived.Test.YtdidlcjhodejjaaGreatMBaa
set_option maxHeartbeats 16000000
set_option maxRecDepth 100000
namespace Go.Proofs.YtdidlcjhodejjaaGreat
open Go.RowKit Go.Deep Go.Joins
set_option linter.unusedVariables false
theorem IK {α:Type} (lt:α→α→Bool) (x:α):∀l acc:List α,iT lt acc (l++[x])=eX lt x (iT lt acc l)
 |[],acc=>rfl
 |y::r,acc=>IK lt x r (eX lt y acc)
theorem NX {α:Type} {l:List α} {i:Nat} {x:α} (h:x∈eN l i):x∈l:=by
 rcases List.mem_append.1 h with h|h
 ·exact List.mem_of_mem_take h
 ·exact List.mem_of_mem_drop h
theorem KC {l:List (List T)} {i:Nat} (h:UU l):UU (eN l i):=fun p hp=>h p (NX hp)
def kG (k:Nat→M) (i j:Nat):Bool:=decide (∀t,t<j→¬(t≠i∧M.dvd (k t) (k i)=true∧(eF (k t) (k i)=false∨t<i)))
set_option linter.unusedSimpArgs false
theorem SE {k:Nat→M} {i j:Nat} (h:j≠i∧M.dvd (k j) (k i)=true∧(eF (k j) (k i)=false∨j<i)):kG k i (j+1)=false:=decide_eq_false (fun hh=>hh j (Nat.lt_succ_self j) h)
theorem NV {k:Nat→M} {i j:Nat} (h:¬(j≠i∧M.dvd (k j) (k i)=true∧(eF (k j) (k i)=false∨j<i))):kG k i (j+1)=kG k i j:=by
 unfold kG;refine decide_eq_decide.2 ⟨fun hh t ht=>hh t (by omega),fun hh t ht=>?_⟩;by_cases e:t=j
 ·rw[e];exact h
 ·exact hh t (by omega)
theorem SF {k:Nat→M} {i j:Nat} (h:kG k i j=false):kG k i (j+1)=false:=by
 cases hq:kG k i (j+1)
 ·rfl
 ·have h1:=of_decide_eq_true hq;have h2:=of_decide_eq_false h
  exact absurd (fun t ht=>h1 t (by omega)) h2
theorem NW (k:Nat→M) (i:Nat):kG k i 0=true:=decide_eq_true (fun t ht=>absurd ht (rT _))
structure Ab (w:World) (o:Int) (a:Option Addr) (n cap:Nat) (ad:Nat→Option Addr) (cp:Nat→Nat) (L:Nat→List T):Prop where
 rd:cZ w a n cap ad (lN L) cp (fN L)
 ho:1≤o∧o≤3
 ok:∀i,i<n→cG (L i)=true∧(L i).length≠0
theorem Ab.below {w w':World} {o:Int} {a:Option Addr} {n cap:Nat} {ad:Nat→Option Addr} {cp:Nat→Nat} {L:Nat→List T} (h:Ab w o a n cap ad cp L) (hb:Below w.heap.size w w'):Ab w' o a n cap ad cp L:=⟨h.rd.below hb,h.ho,h.ok⟩
theorem JQ {W:World} {o:Int} {a:Option Addr} {c:Nat} {p:List T} (h:RL W a c p) (hp:cG p=true) (h0:p.length≠0) {k:Int} {m:M} (hk:(aV o p).c=k) (hm:(aV o p).m=m):Calls Tryz.prog 61 #[.int .i64 o,.slice a p.length c] W fun r w'=>r= .returned (.agg #[.int .i64 k,.int .i64 m.x,.int .i64 m.y,.int .i64 m.d,.int .i64 m.e])∧Below W.heap.size W w':=by have:=qV W o a p.length c (lf p) h (by omega) (fun i hi=>((aD hp).2.2 _ (lK hi)).1);rw[show lf p (bD o (lf p) p.length)=aV o p from rfl,hk,hm]at this;exact this
theorem XW (w:World) (o:Int) (a:Option Addr) (n cap:Nat) (ad:Nat→Option Addr) (cp:Nat→Nat) (L:Nat→List T) (h:Ab w o a n cap ad cp L) (n12:n≤12):Calls Tryz.prog 41 #[.int .i64 o,.slice a n cap] w fun r w'=>∃tv,r= .returned tv∧Below w.heap.size w w'∧dA w.heap.size w' tv (fJ (jP (fun i=>(aV o (L i)).m) n) (gK ad cp L) n):=by
 obtain⟨i0,hi0,hz0,hz1,hz2⟩:=pU;have HH:=aA h
 have hnl:(n:Int)≤12:=by omega
 obtain⟨kf,hkf⟩:∃kf:Nat→M,(fun i=>(aV o (L i)).m)=kf:=⟨_,rfl⟩
 obtain⟨cf,hcf⟩:∃cf:Nat→Int,(fun i=>(aV o (L i)).c)=cf:=⟨_,rfl⟩
 rw[hkf]
 have HLE:Hid (∀i,i<n→∀W,Below w.heap.size w W→Calls Tryz.prog 61 #[.int .i64 o,.slice (ad i) (L i).length (cp i)] W fun r w'=>r= .returned (.agg #[.int .i64 (cf i),.int .i64 (kf i).x,.int .i64 (kf i).y,.int .i64 (kf i).d,.int .i64 (kf i).e])∧Below W.heap.size W w'):=fun i hi W hW=>
  JQ ((h.below hW).rd.2.2.2 i hi) (h.ok i hi).1 (h.ok i hi).2 (congrFun hcf i) (congrFun hkf i)
 have HC1:Hid (∀i,i<n→∃b1 off1,a=some ⟨b1,off1,none⟩∧b1<w.heap.size∧∀W,Below w.heap.size w W→W.cell? ⟨b1,off1+i,none⟩=some (.slice (ad i) (L i).length (cp i))):=fun i hi=>by obtain⟨b1,off1,ea,hb1,hc1⟩:=h.rd.2.2.1.resolve_left (by omega);exact⟨b1,off1,ea,hb1,fun W hW=>(hW.cell (p:=⟨b1,off1+i,none⟩) hb1).trans (hc1 i hi)⟩
 have HS0:=aA (dA.start (w:=w) (Nat.le_refl _));clear h hkf hcf;go_enter Tryz.func41,Tryz.ntmps41;go_wp2;go_loopw [5,6] (fun tv ii wr=>∃(j:Nat),j≤n∧ii= .int .i64 (j:Int)∧Below w.heap.size w wr∧dA w.heap.size wr tv (fJ (jP kf n) (gK ad cp L) j)) (fun _ ii _=>n-(intOf ii).toNat);case atStart=>exact⟨0,Nat.zero_le _,rfl,aC _ _,HS0.out⟩
 case round=>
  obtain⟨j,hj,rfl,hB,hA⟩:=hrel;have HB:=aA hB
  have HA:=aA hA;by_cases hlt:j<n
  ·have hjn:(j:Int)<(n:Int):=by omega
   obtain⟨b1,off1,rfl,hb1,hc1⟩:=HC1.out j hlt;obtain⟨l,hl⟩:∃l,(L j).length=l:=⟨_,rfl⟩
   have kc:wr.cell? ⟨b1,off1+j,none⟩=some (.slice (ad j) l (cp j)):=by rw[←hl];exact hc1 wr hB
   have hcall:=HLE.out j hlt wr hB;rw[hl]at hcall;have HCL:=aA hcall
   have HL:=aA hl;obtain⟨m,hm⟩:∃m,kf j=m:=⟨_,rfl⟩
   rw[hm]at HCL;have HM:=aA hm
   have hfield:∀W:World,(Instr.field 42 (Value.agg #[.int .i64 (cf j),.int .i64 m.x,.int .i64 m.y,.int .i64 m.d,.int .i64 m.e]) 1).run Tryz.prog W= .ok (Value.agg #[.int .i64 m.x,.int .i64 m.y,.int .i64 m.d,.int .i64 m.e]) W:=fun W=>by kernel_rfl
   clear hB hA hc1 hcall hl hm;go_wp2_with fail;refine HCL.out.mono ?_;rintro r w2 ⟨rfl,hb2⟩;have HB2:=aA (aB (aB HB.out hb2) (aC w2 (.cells #[.int .i64 m.x,.int .i64 m.y,.int .i64 m.d,.int .i64 m.e] 40)))
   have HA2:=aA ((HA.out.below hb2).below (aC w2 (.cells #[.int .i64 m.x,.int .i64 m.y,.int .i64 m.d,.int .i64 m.e] 40)));have HM2:=aA (M4.box w2 40 m.x m.y m.d m.e)
   have hsz2:w2.heap.size<(w2.alloc (.cells #[.int .i64 m.x,.int .i64 m.y,.int .i64 m.d,.int .i64 m.e] 40)).heap.size:=by simp
   have hlo2:w.heap.size≤w2.heap.size:=by have:=hb2.size;have:=HB.out.size;omega
   clear hb2 kc HCL;go_wp2;generalize(w2.alloc (.cells #[.int .i64 m.x,.int .i64 m.y,.int .i64 m.d,.int .i64 m.e] 40))=w3 at HB2 HA2 HM2 hsz2⊢;obtain⟨B,hBe⟩:∃B,w2.heap.size=B:=⟨_,rfl⟩
   rw[hBe]at HM2 hsz2 hlo2⊢;clear hBe;go_loopw [8,9] (fun bv ki w'=>∃(i:Nat),i≤n∧ki= .int .i64 (i:Int)∧bv= .bool (kG kf j i)∧Below w3.heap.size w3 w') (fun _ ki _=>n-(intOf ki).toNat);case atStart=>exact⟨0,Nat.zero_le _,rfl,by rw[NW],bL _ _⟩
   case round=>
    obtain⟨i,hi,rfl,rfl,hB4⟩:=hrel;have HB4:=aA hB4
    obtain⟨nb,hnb⟩:∃nb,kG kf j i=nb:=⟨_,rfl⟩
    rw[hnb];have HNB:=aA hnb
    clear hnb;by_cases hit:i<n
    ·have hin:(i:Int)<(n:Int):=by omega
     obtain⟨b1',off1',ea,hb1',hc1⟩:=HC1.out i hit;cases ea;obtain⟨l',hl'⟩:∃l',(L i).length=l':=⟨_,rfl⟩
     have hBr:=aB HB2.out hB4;have kc:wr.cell? ⟨b1,off1+i,none⟩=some (.slice (ad i) l' (cp i)):=by rw[←hl'];exact hc1 wr hBr
     have hcall:=HLE.out i hit wr hBr;rw[hl']at hcall;have HCL:=aA hcall
     obtain⟨m',hm'⟩:∃m',kf i=m':=⟨_,rfl⟩
     rw[hm']at HCL;have HM':=aA hm'
     have hfield':∀W:World,(Instr.field 42 (Value.agg #[.int .i64 (cf i),.int .i64 m'.x,.int .i64 m'.y,.int .i64 m'.d,.int .i64 m'.e]) 1).run Tryz.prog W= .ok (Value.agg #[.int .i64 m'.x,.int .i64 m'.y,.int .i64 m'.d,.int .i64 m'.e]) W:=fun W=>by kernel_rfl
     have hbad:(i≠j∧M.dvd m' m=true∧(eF m' m=false∨i<j))→kG kf j (i+1)=false:=fun hh=>SE (by rw[HM'.out,HM.out];exact hh);have hkeep:¬(i≠j∧M.dvd m' m=true∧(eF m' m=false∨i<j))→kG kf j (i+1)=nb:=fun hh=>by rw[NV (by rw[HM'.out,HM.out];exact hh),HNB.out]
     have hnot:nb=false→kG kf j (i+1)=false:=fun e=>SF (by rw[HNB.out,e]);have HBAD:=aA hbad
     have HKEEP:=aA hkeep;have HNOT:=aA hnot
     obtain⟨dv,hdv⟩:∃dv,M.dvd m' m=dv:=⟨_,rfl⟩
     have HDC:Hid (∀W:World,Calls Tryz.prog 83 #[.agg #[.int .i64 m'.x,.int .i64 m'.y,.int .i64 m'.d,.int .i64 m'.e],.agg #[.int .i64 m.x,.int .i64 m.y,.int .i64 m.d,.int .i64 m.e]] W fun r w'=>r= .returned (.bool dv)∧Below W.heap.size W w'):=fun W=>kU (x:=m'.x) (y:=m'.y) (d:=m'.d) (e:=m'.e) (x':=m.x) (y':=m.y) (d':=m.d) (e':=m.e) hdv W;have HDV:=aA hdv
     clear hB4 hc1 hcall hl' hm' hBr hbad hkeep hnot hdv HNB;go_wp2_with fail;refine HCL.out.mono ?_;rintro r w5 ⟨rfl,hb5⟩;have bx:=aC w5 (.cells #[.int .i64 m'.x,.int .i64 m'.y,.int .i64 m'.d,.int .i64 m'.e] 40)
     have HB5:=aA (aB (aB HB4.out hb5) bx);obtain⟨x0,x1,x2,x3⟩:=((HM2.out.below HB4.out).below hb5).below bx;obtain⟨y0,y1,y2,y3⟩:=M4.box w5 40 m'.x m'.y m'.d m'.e;have HX:=aA (((HM2.out.below HB4.out).below hb5).below bx)
     have HY:=aA (M4.box w5 40 m'.x m'.y m'.d m'.e);clear hb5 bx kc HCL;cases nb
     ·have HN:=aA (HNOT.out rfl);clear HBAD HKEEP HNOT;go_wp2;go_roundw;case rel=>exact⟨i+1,by omega,by go_num,by rw[HN.out],HB5.out⟩
      case measure=>simp[intOf];omega
     ·by_cases hij:i=j
      ·have HN:=aA (HKEEP.out (fun hh=>hh.1 hij));have hneb:((i:Int)!=(j:Int))=false:=by simp;omega
       clear HBAD HKEEP HNOT hij;go_wp2;go_roundw;case rel=>exact⟨i+1,by omega,by go_num,by rw[HN.out],HB5.out⟩
       case measure=>simp[intOf];omega
      ·have hneb:((i:Int)!=(j:Int))=true:=by simp;omega
       cases dv
       ·have HN:=aA (HKEEP.out (fun hh=>by have:=hh.2.1;rw[HDV.out]at this;cases this));clear HBAD HKEEP HNOT;go_wp2_with fail;refine(HDC.out _).mono ?_;rintro r w6 ⟨rfl,hb6⟩;have HB6:=aA (aB HB5.out hb6)
        clear hb6;go_wp2;go_roundw;case rel=>exact⟨i+1,by omega,by go_num,by rw[HN.out],HB6.out⟩
        case measure=>simp[intOf];omega
       ·go_wp2_with fail;refine(HDC.out _).mono ?_;rintro r w6 ⟨rfl,hb6⟩;have HB6:=aA (aB HB5.out hb6)
        obtain⟨z0,z1,z2,z3⟩:=HX.out.below hb6;obtain⟨v0,v1,v2,v3⟩:=HY.out.below hb6;clear hb6 x0 x1 x2 x3 y0 y1 y2 y3;have done:∀b,kG kf j (i+1)=b→Hid (kG kf j (i+1)=b):=fun _ h=>h
        by_cases hx:m'.x=m.x
        ·by_cases hy:m'.y=m.y
         ·by_cases hd:m'.d=m.d
          ·by_cases he:m'.e=m.e
           ·have heq:eF m' m=true:=decide_eq_true ⟨hx,hy,hd,he⟩;by_cases hlj:i<j
            ·have HN:=done _ (HBAD.out ⟨hij,HDV.out,.inr hlj⟩);have hljI:(i:Int)<(j:Int):=by omega
             clear heq HBAD HKEEP HNOT;go_wp2;go_roundw;case rel=>exact⟨i+1,by omega,by go_num,by rw[HN.out],HB6.out⟩
             case measure=>simp[intOf];omega
            ·have HN:=done _ (HKEEP.out (fun hh=>by
              rcases hh.2.2 with q|q
              ·rw[heq]at q;cases q
              ·exact hlj q))
             have hljI:¬(i:Int)<(j:Int):=by omega
             clear heq HBAD HKEEP HNOT;go_wp2;go_roundw;case rel=>exact⟨i+1,by omega,by go_num,by rw[HN.out],HB6.out⟩
             case measure=>simp[intOf];omega
           ·have HN:=done _ (HBAD.out ⟨hij,HDV.out,.inl (decide_eq_false (fun q=>he q.2.2.2))⟩);clear HBAD HKEEP HNOT;go_wp2;go_roundw;case rel=>exact⟨i+1,by omega,by go_num,by rw[HN.out],HB6.out⟩
            case measure=>simp[intOf];omega
          ·have HN:=done _ (HBAD.out ⟨hij,HDV.out,.inl (decide_eq_false (fun q=>hd q.2.2.1))⟩);clear HBAD HKEEP HNOT;go_wp2;go_roundw;case rel=>exact⟨i+1,by omega,by go_num,by rw[HN.out],HB6.out⟩
           case measure=>simp[intOf];omega
         ·have HN:=done _ (HBAD.out ⟨hij,HDV.out,.inl (decide_eq_false (fun q=>hy q.2.1))⟩);clear HBAD HKEEP HNOT;go_wp2;go_roundw;case rel=>exact⟨i+1,by omega,by go_num,by rw[HN.out],HB6.out⟩
          case measure=>simp[intOf];omega
        ·have HN:=done _ (HBAD.out ⟨hij,HDV.out,.inl (decide_eq_false (fun q=>hx q.1))⟩);clear HBAD HKEEP HNOT;go_wp2;go_roundw;case rel=>exact⟨i+1,by omega,by go_num,by rw[HN.out],HB6.out⟩
         case measure=>simp[intOf];omega
    ·have hin:¬(i:Int)<(n:Int):=by omega
     have hie:i=n:=by omega
     have hnd:jP kf n j=nb:=by rw[←HNB.out,hie];rfl
     have HBr:=aA (aB HB2.out HB4.out);have HAr:=aA (HA2.out.below HB4.out)
     have hskip:nb=false→fJ (jP kf n) (gK ad cp L) (j+1)=fJ (jP kf n) (gK ad cp L) j:=fun hg=>if_neg (by rw[hnd,hg];simp);have htake:nb=true→fJ (jP kf n) (gK ad cp L) (j+1)=fJ (jP kf n) (gK ad cp L) j++[gK ad cp L j]:=fun hg=>if_pos (by rw[hnd,hg])
     have HSK:=aA hskip;have HTK:=aA htake
     subst hie;obtain⟨wo,hwo⟩:∃x,x=wr:=⟨_,rfl⟩
     subst hwo;clear hB4 hskip htake hnd HNB;cases nb
     ·have HS:=aA (HSK.out rfl);clear HSK HTK;go_wp2;go_roundw;case rel=>exact⟨j+1,by omega,by go_num,HBr.out,by rw[HS.out];exact HAr.out⟩
      case measure=>simp[intOf];omega
     ·have HT:=aA (HTK.out rfl);clear HSK HTK;obtain⟨b1',off1',ea,hb1',hc1⟩:=HC1.out j hlt;cases ea;have kc:wo.cell? ⟨b1,off1+j,none⟩=some (.slice (ad j) l (cp j)):=by rw[←HL.out];exact hc1 wo HBr.out
      have hrow:=HAr.out.row;have hjl:=qI (jP kf i) (gK ad cp L) j
      obtain⟨q,hq⟩:∃q,(fJ (jP kf i) (gK ad cp L) j).length=q:=⟨_,rfl⟩
      rw[hq]at hrow hjl;have bx:=aC wo (.cells #[.slice (ad j) l (cp j)] 45)
      have HB7:=aA (aB HBr.out bx);have HA7:=aA (HAr.out.below bx)
      have hrow7:=HA7.out.row;rw[hq]at hrow7;have hnews:∀jj u,[Value.slice (ad j) l (cp j)][jj]? =some u→(wo.alloc (.cells #[.slice (ad j) l (cp j)] 45)).cell? ((⟨wo.heap.size,0,none⟩:Addr).add jj)=some u:=World.news_of_block (heap_alloc_new wo _)
      have hone:∀u∈[Value.slice (ad j) l (cp j)],u.oneCell'=true:=fun u hu=>by
       have:u= .slice (ad j) l (cp j):=by simpa using hu
       subst this;rfl
      have hbase:w.heap.size≤(wo.alloc (.cells #[.slice (ad j) l (cp j)] 45)).heap.size:=HB7.out.size;have HEL:Hid (mU (wo.alloc (.cells #[.slice (ad j) l (cp j)] 45)) u5.ownBlock (gK ad cp L j)):=by refine mU.far (w:=w) (HH.out.rd.el hlt) HB7.out (fun k hk=>?_);exact(HA7.out.row.lt k hk).1
      have HRND:Hid (∀(g0 cap0:Nat) (w8:World),w8.ownsRow w.heap.size 45 1 (.slice (some ⟨g0,0,none⟩) (q+1) cap0) (q+1) ((fJ (jP kf i) (gK ad cp L) j).map E.v++[.slice (ad j) l (cp j)])→(wo.alloc (.cells #[.slice (ad j) l (cp j)] 45)).grownBy w8 u5.ownBlock→(u5.ownBlock=some g0∨g0=(wo.alloc (.cells #[.slice (ad j) l (cp j)] 45)).heap.size)→dA w.heap.size w8 (.slice (some ⟨g0,0,none⟩) (q+1) cap0) (fJ (jP kf i) (gK ad cp L) (j+1))):=fun g0 cap0 w8 p1 p2 p3=>by have:=HA7.out.app (es':=[gK ad cp L j]) (fun e he=>by rw[List.mem_singleton.1 he];exact HEL.out) (g0:=g0) (cap0:=cap0) p2 (by rw[hq];show w8.ownsRow _ _ _ _ (q+1) (_++[Value.slice (ad j) (L j).length (cp j)]);rw[HL.out];exact p1) p3;rw[hq]at this;rw[HT.out];exact this
      clear bx hc1 hq hrow;go_wp2_with (at_builtin;refine wpList_append_lies _ rfl (.tmp 61) (.tmp 66) 24 rfl w.heap.size 45 i0 _ 1 24 Tryz.underlying24 hi0 hz0 hz1 hz2 rfl (by omega) _ q ((fJ (jP kf i) (gK ad cp L) j).map E.v) rfl hrow7 ⟨wo.heap.size,0,none⟩ 1 1 [.slice (ad j) l (cp j)] rfl rfl hnews hone (by omega) (by unfold maxLen;omega) (by omega) hbase _ rfl ?_;intro g0 cap0 w8 hown1 hgrow hat hlt1;have HX:=aA (HRND.out g0 cap0 w8 hown1 hgrow hat);have HB8:=aA (HB7.out.grown hgrow hbase (fun k e=>(HA7.out.row.lt k e).1));clear hown1 hgrow hat hlt1 hnews hone hrow7 hbase);go_roundw;case rel=>exact⟨j+1,by omega,by go_num,HB8.out,HX.out⟩
      case measure=>simp[intOf];omega
  ·have hjn:¬(j:Int)<(n:Int):=by omega
   have hje:j=n:=by omega
   subst hje;clear hB hA;go_wp2;go_ret;exact⟨_,rfl,HB.out,HA.out⟩
theorem rI {ops:Array Oper} {o:Oper} {a:Act} {K:Act→World→Prop} {Q:Exit→Act→World→Prop} {G:Prop} (hgd:o.guard=none) (s x:Operand) (ho:o.op= .call {callee:=.builtin .append,args:=#[s,x],argTypes:=#[24,24]}) {lo:Nat} {W:World} {tv:Value} {es:List E} (hR:dA lo W tv es) (hs:a.eval s=tv) {pa:Option Addr} {pc m:Nat} {es':List E} (hm:es'.length=m) (hx:a.eval x= .slice pa m pc) (hrd:nG W pa pc es') (hel:∀e∈es',mU W tv.ownBlock e) (hlo:lo≤W.heap.size) (hn:es.length+m≤100) (h:∀tv' w',dA lo w' tv' (es++es')→(∀N w0,Below N w0 W→N≤lo→Below N w0 w')→W.heap.size≤w'.heap.size→K (a.put o.dst tv') w'):if Region.wanted o (yielded ops a.tmps)=true then Oper.wp Tryz.prog o a W K Q else G:=by
 have hw:Region.wanted o (yielded ops a.tmps)=true:=by simp[Region.wanted,hgd]
 rw[if_pos hw];exact QF s x ho hR hs hm hx hrd hel hlo hn h
theorem dA.weak {lo lo':Nat} {w:World} {tv:Value} {es:List E} (h:dA lo w tv es) (hl:lo'≤lo):dA lo' w tv es:=by refine⟨?_,h.el⟩;obtain⟨h1,h2⟩:=h.row;refine⟨h1,h2.imp id ?_⟩;rintro⟨g,cap,cur,e1,e2,r⟩;exact⟨g,cap,cur,e1,by omega,r⟩
theorem Co {α:Type} {lt:α→α→Bool} {y z:α}:∀{l:List α},l.any (lt y)=true→eX lt y (l++[z])=eX lt y l++[z]
 |[],h=>by cases h
 |x::r,h=>by
  show(if lt y x=true then y::x::(r++[z])else x::eX lt y (r++[z]))=(if lt y x=true then y::x::r else x::eX lt y r)++[z];by_cases e:lt y x=true
  ·rw[if_pos e,if_pos e];rfl
  ·rw[if_neg e,if_neg e,Co (l:=r) (by
    rw[List.any_cons]at h;have e':lt y x=false:=by cases q:lt y x;rfl;exact absurd q e
    rw[e',Bool.false_or]at h
    exact h)]
   rfl
theorem Cq {α:Type} {lt:α→α→Bool} {y:α}:∀{l:List α},l.any (lt y)=false→eX lt y l=l++[y]
 |[],_=>rfl
 |x::r,h=>by
  rw[List.any_cons]at h;obtain⟨h1,h2⟩:=Bool.or_eq_false_iff.1 h;show(if lt y x=true then y::x::r else x::eX lt y r)=_
  rw[if_neg (by rw[h1];simp),Cq h2];rfl
theorem UC {α:Type} {lt:α→α→Bool} {y z:α} (hz:lt y z=true):∀{l:List α},l.any (lt y)=false→eX lt y (l++[z])=l++[y]++[z]
 |[],_=>by show(if lt y z=true then[y,z]else z::eX lt y [])=_;rw[if_pos hz];rfl
 |x::r,h=>by
  rw[List.any_cons]at h;obtain⟨h1,h2⟩:=Bool.or_eq_false_iff.1 h;show(if lt y x=true then y::x::(r++[z])else x::eX lt y (r++[z]))=_
  rw[if_neg (by rw[h1];simp),UC hz h2];rfl
structure rO {α:Type} (lt:α→α→Bool) (y:α) (l:List α) (dn:Bool) (X:List α):Prop where
 any:l.any (lt y)=dn
 eq:X=if dn=true then eX lt y l else l
theorem rO.nil {α:Type} (lt:α→α→Bool) (y:α):rO lt y [] false []:=⟨rfl,rfl⟩
theorem rO.go {α:Type} {lt:α→α→Bool} {y:α} {l X:List α} (h:rO lt y l true X) (z:α):rO lt y (l++[z]) true (X++[z]):=by have e:X=eX lt y l:=h.eq;refine⟨by rw[List.any_append,h.any,Bool.true_or],?_⟩;rw[if_pos rfl,Co h.any,e]
theorem rO.hit {α:Type} {lt:α→α→Bool} {y z:α} {l X:List α} (h:rO lt y l false X) (hz:lt y z=true):rO lt y (l++[z]) true (X++[y]++[z]):=by have e:X=l:=h.eq;refine⟨by rw[List.any_append,h.any,Bool.false_or,List.any_cons,hz];rfl,?_⟩;rw[if_pos rfl,UC hz h.any,e]
theorem rO.miss {α:Type} {lt:α→α→Bool} {y z:α} {l X:List α} (h:rO lt y l false X) (hz:lt y z=false):rO lt y (l++[z]) false (X++[z]):=by have e:X=l:=h.eq;refine⟨by rw[List.any_append,h.any,Bool.false_or,List.any_cons,hz];rfl,?_⟩;rw[if_neg (by simp),e]
theorem rO.done {α:Type} {lt:α→α→Bool} {y:α} {l X:List α} (h:rO lt y l true X):X=eX lt y l:=h.eq
theorem rO.last {α:Type} {lt:α→α→Bool} {y:α} {l X:List α} (h:rO lt y l false X):X++[y]=eX lt y l:=by have e:X=l:=h.eq;rw[Cq h.any,e]
theorem EK {es:List E} {k:Nat} (h:k<es.length):es.take (k+1)=es.take k++[es.getD k E0]:=by rw[List.take_add_one,(zX h).1];rfl
theorem Ge (o:Int) {es:List E} {k:Nat} (h:k<es.length):iT (jL o) [] (es.take (k+1))=eX (jL o) (es.getD k E0) (iT (jL o) [] (es.take k)):=by rw[EK h,IK]
theorem Je {o:Int} {y z:E} (ho:1≤o∧o≤3) (hy:cG y.p=true∧y.p.length≠0) (hz:cG z.p=true∧z.p.length≠0):jL o y z=decide (M.ord o (aV o y.p).m (aV o z.p).m<0):=by show decide (fH o (aV o y.p).m<fH o (aV o z.p).m)=_;exact decide_eq_decide.2 (SL ho (mP hy) (mP hz)).symm
theorem RK (w:World) (o:Int) (a:Option Addr) (c:Nat) (es:List E) (h:nG w a c es) (ho:1≤o∧o≤3) (n12:es.length≤12) (hok:∀e∈es,cG e.p=true∧e.p.length≠0):Calls Tryz.prog 40 #[.int .i64 o,.slice a es.length c] w fun r w'=>∃tv,r= .returned tv∧Below w.heap.size w w'∧dA w.heap.size w' tv (iT (jL o) [] es):=by
 have HH:=aA h;have HOK:=aA hok
 obtain⟨n,hn⟩:∃n,es.length=n:=⟨_,rfl⟩
 rw[hn];have hnl:(n:Int)≤12:=by omega
 have HN:=aA hn;have HC1:Hid (∀i,i<n→∃b1 off1,a=some ⟨b1,off1,none⟩∧∀W,Below w.heap.size w W→W.cell? ⟨b1,off1+i,none⟩=some (es.getD i E0).v):=fun i hi=>by obtain⟨b1,off1,ea,hb1,hc1⟩:=h.2.2.1.resolve_left (by omega);exact⟨b1,off1,ea,fun W hW=>(hW.cell (p:=⟨b1,off1+i,none⟩) hb1).trans (hc1 i _ (zX (by omega)).1)⟩
 have HLD:Hid (∀(e:E) (k:Int) (m:M),e∈es→(aV o e.p).c=k→(aV o e.p).m=m→∀W,Below w.heap.size w W→Calls Tryz.prog 61 #[.int .i64 o,.slice e.a e.p.length e.c] W fun r w'=>r= .returned (.agg #[.int .i64 k,.int .i64 m.x,.int .i64 m.y,.int .i64 m.d,.int .i64 m.e])∧Below W.heap.size W w'):=fun e k m he hk hm W hW=>JQ (Rd.below (h.2.2.2 e he) hW) (hok e he).1 (hok e he).2 hk hm;have HS0:=aA (dA.start (w:=w) (Nat.le_refl _))
 clear h hok hn n12;go_enter Tryz.func40,Tryz.ntmps40;go_wp2;go_loopw [5,6] (fun tv ii wr=>∃(j:Nat),j≤n∧ii= .int .i64 (j:Int)∧Below w.heap.size w wr∧dA w.heap.size wr tv (iT (jL o) [] (es.take j))) (fun _ ii _=>n-(intOf ii).toNat);case atStart=>exact⟨0,Nat.zero_le _,rfl,aC _ _,HS0.out⟩
 case round=>
  obtain⟨j,hj,rfl,hB,hA⟩:=hrel;have HB:=aA hB
  by_cases hlt:j<n
  ·have hjn:(j:Int)<(n:Int):=by omega
   obtain⟨b1,off1,rfl,hc1⟩:=HC1.out j hlt;have hmem:∀e∈iT (jL o) [] (es.take j),e∈es:=fun e he=>by
    rcases qJ.1 he with q|q
    ·cases q
    ·exact List.mem_of_mem_take q
   have hAl:(iT (jL o) [] (es.take j)).length=j:=by rw[sO,List.length_take,HN.out];simp;omega
   have HNX:=aA (Ge o (es:=es) (k:=j) (by rw[HN.out];exact hlt));obtain⟨A,hAe⟩:∃A,iT (jL o) [] (es.take j)=A:=⟨_,rfl⟩
   rw[hAe]at hA hmem hAl;have HAE:=aA hAe
   have hym:es.getD j E0∈es:=(zX (by rw[HN.out];exact hlt)).2;obtain⟨y,hy⟩:∃y,es.getD j E0=y:=⟨_,rfl⟩
   rw[hy]at hym;have HY:=aA hy
   obtain⟨yl,hyl⟩:∃yl,y.p.length=yl:=⟨_,rfl⟩
   have HYL:=aA hyl;have HYC:Hid (∀W,Below w.heap.size w W→W.cell? ⟨b1,off1+j,none⟩=some (.slice y.a yl y.c)):=fun W hW=>by rw[hc1 W hW,hy,←hyl];rfl
   obtain⟨oa,oc,htv,hrd⟩:=hA.rd (by omega);rw[hAl]at htv;subst htv;have HRD:=aA hrd
   have HMEM:=aA hmem;have HYM:=aA hym
   have HAL:=aA hAl;obtain⟨yk,hyk⟩:∃k,(aV o y.p).c=k:=⟨_,rfl⟩
   obtain⟨ym,hymm⟩:∃m,(aV o y.p).m=m:=⟨_,rfl⟩
   have HLY:Hid (∀W,Below w.heap.size w W→Calls Tryz.prog 61 #[.int .i64 o,.slice y.a yl y.c] W fun r w'=>r= .returned (.agg #[.int .i64 yk,.int .i64 ym.x,.int .i64 ym.y,.int .i64 ym.d,.int .i64 ym.e])∧Below W.heap.size W w'):=fun W hW=>by have:=HLD.out y yk ym hym hyk hymm W hW;rw[hyl]at this;exact this
   have HYE:Hid ((aV o y.p).m=ym):=hymm;have hfy:∀W:World,(Instr.field 42 (Value.agg #[.int .i64 yk,.int .i64 ym.x,.int .i64 ym.y,.int .i64 ym.d,.int .i64 ym.e]) 1).run Tryz.prog W= .ok (Value.agg #[.int .i64 ym.x,.int .i64 ym.y,.int .i64 ym.d,.int .i64 ym.e]) W:=fun W=>by kernel_rfl
   obtain⟨w1,hw1⟩:∃x,x=wr:=⟨_,rfl⟩
   subst hw1;have HX0:=aA (dA.start (w:=w1) (Nat.le_refl _))
   have hlo1:w.heap.size≤w1.heap.size:=hB.size;clear hB hA hrd hmem hAl hAe hy hyl hyk hymm hc1 hym;go_wp2;go_loopw [7,8,9] (fun xv dv ki wr=>∃(k:Nat) (dn:Bool) (X:List E),k≤j∧X.length≤k+1∧ki= .int .i64 (k:Int)∧dv= .bool dn∧Below w1.heap.size w1 wr∧dA w1.heap.size wr xv X∧rO (jL o) y (A.take k) dn X∧(∀e∈X,e∈es)) (fun _ _ ki _=>j-(intOf ki).toNat);case atStart=>exact⟨0,false,[],Nat.zero_le _,Nat.zero_le _,rfl,rfl,aC _ _,HX0.out,rO.nil _ _,fun e he=>by cases he⟩
   case round=>
    obtain⟨k,dn,X,hk,hXl,rfl,rfl,hB2,hX,hI,hXm⟩:=hrel;have HB2:=aA hB2
    have HX:=aA hX;have HI:=aA hI
    have HXM:=aA hXm;have hXl50:X.length≤14:=by omega
    have hX1:X.length+1≤100:=by omega
    by_cases hkt:k<j
    ·have hkj:(k:Int)<(j:Int):=by omega
     obtain⟨b2,off2,ea,hb2,hc2⟩:=HRD.out.2.2.1.resolve_left (by rw[HAL.out];omega);cases ea;obtain⟨z,hz⟩:∃z,A.getD k E0=z:=⟨_,rfl⟩
     have hzm:z∈es:=by rw[←hz];exact HMEM.out _ (zX (by rw[HAL.out];exact hkt)).2
     have HTK:Hid (A.take (k+1)=A.take k++[z]):=by show _=_;rw[EK (by rw[HAL.out];exact hkt),hz]
     obtain⟨zl,hzl⟩:∃zl,z.p.length=zl:=⟨_,rfl⟩
     have HZL:=aA hzl;have HZM:=aA hzm
     have HZC:Hid (∀W,Below w1.heap.size w1 W→W.cell? ⟨b2,off2+k,none⟩=some (.slice z.a zl z.c)):=fun W hW=>by rw[hW.cell (p:=⟨b2,off2+k,none⟩) hb2,hc2 k _ (zX (by rw[HAL.out];exact hkt)).1,hz,←hzl];rfl
     obtain⟨zk,hzk⟩:∃k,(aV o z.p).c=k:=⟨_,rfl⟩
     obtain⟨zm,hzmm⟩:∃m,(aV o z.p).m=m:=⟨_,rfl⟩
     have HLZ:Hid (∀W,Below w.heap.size w W→Calls Tryz.prog 61 #[.int .i64 o,.slice z.a zl z.c] W fun r w'=>r= .returned (.agg #[.int .i64 zk,.int .i64 zm.x,.int .i64 zm.y,.int .i64 zm.d,.int .i64 zm.e])∧Below W.heap.size W w'):=fun W hW=>by have:=HLD.out z zk zm hzm hzk hzmm W hW;rw[hzl]at this;exact this
     have hfz:∀W:World,(Instr.field 42 (Value.agg #[.int .i64 zk,.int .i64 zm.x,.int .i64 zm.y,.int .i64 zm.d,.int .i64 zm.e]) 1).run Tryz.prog W= .ok (Value.agg #[.int .i64 zm.x,.int .i64 zm.y,.int .i64 zm.d,.int .i64 zm.e]) W:=fun W=>by kernel_rfl
     have HPUT:Hid (∀(W:World) (xv:Value) (Y:List E),Below w1.heap.size w1 W→dA w1.heap.size W xv Y→(∀e∈Y,e∈es)→dA w1.heap.size (W.alloc (.cells #[.slice z.a zl z.c] 45)) xv Y∧nG (W.alloc (.cells #[.slice z.a zl z.c] 45)) (some ⟨W.heap.size,0,none⟩) 1 [z]∧(∀e∈[z],mU (W.alloc (.cells #[.slice z.a zl z.c] 45)) xv.ownBlock e)∧w1.heap.size≤(W.alloc (.cells #[.slice z.a zl z.c] 45)).heap.size∧Below w1.heap.size w1 (W.alloc (.cells #[.slice z.a zl z.c] 45))∧(∀e∈Y++[z],e∈es)):=fun W xv Y hW hR hm=>by
      have hWw:=aB HB.out hW;have hbx:=aC W (.cells #[.slice z.a zl z.c] 45)
      refine⟨hR.below hbx,?_,fun e he=>?_,(aB hW hbx).size,aB hW hbx,fun e he=>?_⟩
      ·have:=nG.box (W:=W) (e:=z) (Rd.below (HH.out.2.2.2 z HZM.out) hWw);rw[show z.v= .slice z.a zl z.c by rw[←HZL.out];rfl]at this;exact this
      ·rw[List.mem_singleton.1 he];refine mU.far (w:=w) (HH.out.2.2.2 z HZM.out) (aB hWw hbx) (fun q hq=>?_);have:=((hR.below hbx).row.lt q hq).1
       have:=HB.out.size;omega
      ·rcases List.mem_append.1 he with q|q
       ·exact hm e q
       ·rw[List.mem_singleton.1 q];exact HZM.out
     have HPUTY:Hid (∀(W:World) (xv:Value) (Y:List E),Below w1.heap.size w1 W→dA w1.heap.size W xv Y→(∀e∈Y,e∈es)→dA w1.heap.size (W.alloc (.cells #[.slice y.a yl y.c] 45)) xv Y∧nG (W.alloc (.cells #[.slice y.a yl y.c] 45)) (some ⟨W.heap.size,0,none⟩) 1 [y]∧(∀e∈[y],mU (W.alloc (.cells #[.slice y.a yl y.c] 45)) xv.ownBlock e)∧w1.heap.size≤(W.alloc (.cells #[.slice y.a yl y.c] 45)).heap.size∧Below w1.heap.size w1 (W.alloc (.cells #[.slice y.a yl y.c] 45))∧(∀e∈Y++[y],e∈es)):=fun W xv Y hW hR hm=>by
      have hWw:=aB HB.out hW;have hbx:=aC W (.cells #[.slice y.a yl y.c] 45)
      refine⟨hR.below hbx,?_,fun e he=>?_,(aB hW hbx).size,aB hW hbx,fun e he=>?_⟩
      ·have:=nG.box (W:=W) (e:=y) (Rd.below (HH.out.2.2.2 y HYM.out) hWw);rw[show y.v= .slice y.a yl y.c by rw[←HYL.out];rfl]at this;exact this
      ·rw[List.mem_singleton.1 he];refine mU.far (w:=w) (HH.out.2.2.2 y HYM.out) (aB hWw hbx) (fun q hq=>?_);have:=((hR.below hbx).row.lt q hq).1
       have:=HB.out.size;omega
      ·rcases List.mem_append.1 he with q|q
       ·exact hm e q
       ·rw[List.mem_singleton.1 q];exact HYM.out
     obtain⟨lv,hlv⟩:∃lv,jL o y z=lv:=⟨_,rfl⟩
     have HOR:Hid (decide (M.ord o ym zm<0)=lv):=by show _=lv;rw[←hlv,Je ho (HOK.out y HYM.out) (HOK.out z hzm),HYE.out,hzmm]
     have HLV:=aA hlv;have hoy:ym.ok=true:=by rw[←HYE.out];exact mP (HOK.out y HYM.out)
     have hoz:zm.ok=true:=by rw[←hzmm];exact mP (HOK.out z hzm)
     have HOC:Hid (∀W:World,Calls Tryz.prog 82 #[.int .i64 o,.agg #[.int .i64 ym.x,.int .i64 ym.y,.int .i64 ym.d,.int .i64 ym.e],.agg #[.int .i64 zm.x,.int .i64 zm.y,.int .i64 zm.d,.int .i64 zm.e]] W fun r w'=>r= .returned (.int .i64 (M.ord o ym zm))∧Below W.heap.size W w'):=fun W=>Od o ym.x ym.y ym.d ym.e zm.x zm.y zm.d zm.e W (fun _=>⟨hoy,hoz⟩);have kz:=HZC.out wr hB2
     clear hB2 hX hI hXm hz hzl hzk hzmm hc2 hlv hoy hoz hzm;cases dn
     ·have ky:=HYC.out wr (aB HB.out HB2.out);have hly:=HLY.out wr.drew (aB HB.out HB2.out).drew
      have hlz:∀W,Below wr.drew.heap.size wr.drew W→Calls Tryz.prog 61 #[.int .i64 o,.slice z.a zl z.c] W fun r w'=>r= .returned (.agg #[.int .i64 zk,.int .i64 zm.x,.int .i64 zm.y,.int .i64 zm.d,.int .i64 zm.e])∧Below W.heap.size W w':=fun W hW=>HLZ.out W (aB (aB HB.out HB2.out).drew hW);have HLYH:=aA hly
      have HLZH:=aA hlz;have hS:wr.drew.cell? ⟨b1,off1+j,none⟩=some (.slice y.a yl y.c)∧wr.drew.cell? ⟨b2,off2+k,none⟩=some (.slice z.a zl z.c):=⟨ky,kz⟩
      have HKEEP:Hid (∀W,Below wr.drew.heap.size wr.drew W→W.cell? ⟨b1,off1+j,none⟩=some (.slice y.a yl y.c)∧W.cell? ⟨b2,off2+k,none⟩=some (.slice z.a zl z.c)):=fun W hW=>⟨HYC.out W (aB (aB HB.out HB2.out).drew hW),HZC.out W (aB HB2.out.drew hW)⟩
      clear hly hlz;go_wp2_with fail
      go_region_held3 (fun u=>u.cell? ⟨b1,off1+j,none⟩=some (.slice y.a yl y.c)∧u.cell? ⟨b2,off2+k,none⟩=some (.slice z.a zl z.c)) (first|with_reducible exact hS|with_reducible exact HKEEP.out _ bb1|with_reducible exact HKEEP.out _ (aB bb1 bb2)|with_reducible exact HKEEP.out _ (aB (aB bb1 bb2) bb3)) (first|(go_at_call 61;(with_reducible refine HLYH.out.mono ?_);rintro e v1 ⟨rfl,bb1⟩)|(go_at_call 61;(with_reducible refine(HLZH.out v1 bb1).mono ?_);rintro e v2 ⟨rfl,bb2⟩)|(go_at_call 82;(with_reducible refine(HOC.out _).mono ?_);rintro e v3 ⟨rfl,bb3⟩))
      have HB3:=aA (aB (aB (aB HB2.out.drew bb1) bb2) bb3);have HX3:=aA (((HX.out.below (bL _ wr).drew).below bb1).below (bb2.trans (bb3.mono bb2.size)))
      clear bb1 bb2 bb3 hS HKEEP HLYH HLZH ky kz;cases lv
      ·have hor:¬(M.ord o ym zm<0):=of_decide_eq_false HOR.out;have HI4:=aA (HI.out.miss HLV.out)
       obtain⟨p1,p2,p3,p4,p5,p6⟩:=HPUT.out v3 u7 X HB3.out HX3.out HXM.out;have kz3:=HZC.out v3 HB3.out
       have P1:=aA p1;have P2:=aA p2
       have P3:=aA p3;have P5:=aA p5
       have P6:=aA p6;clear p1 p2 p3 p5 p6;go_wp2_with (at_builtin;refine eJ rfl (.tmp 52) (.tmp 57) rfl P1.out rfl rfl rfl P2.out P3.out p4 hX1 ?_;intro tv' w9 q1 q2 q3;have Q1:=aA q1;have Q2:=aA (q2 _ _ P5.out (Nat.le_refl _));clear q1 q2 q3);go_roundw;case rel=>exact⟨k+1,false,X++[z],by omega,by rw[List.length_append];simp;omega,by go_num,rfl,Q2.out,Q1.out,by rw[HTK.out];exact HI4.out,P6.out⟩
       case measure=>simp[intOf];omega
      ·have hor:M.ord o ym zm<0:=of_decide_eq_true HOR.out;have HI4:=aA (HI.out.hit HLV.out)
       obtain⟨p1,p2,p3,p4,p5,p6⟩:=HPUTY.out v3 u7 X HB3.out HX3.out HXM.out;have ky3:=HYC.out v3 (aB HB.out HB3.out)
       have P1:=aA p1;have P2:=aA p2
       have P3:=aA p3;have P5:=aA p5
       have P6:=aA p6;clear p1 p2 p3 p5 p6;have HX2:Hid ((X++[y]).length+1≤100):=by
        have e:X=A.take k:=HI.out.eq;have e2:X.length≤k:=by rw[e,List.length_take];omega
        show(X++[y]).length+1≤100;simp only[List.length_append,List.length_cons,List.length_nil];omega
       go_wp2_with (first|(at_builtin;refine eJ rfl (.tmp 45) (.tmp 50) rfl P1.out rfl rfl rfl P2.out P3.out p4 hX1 ?_;intro tv' w9 q1 q2 q3;have Q1:=aA q1;have Q2:=aA (q2 _ _ P5.out (Nat.le_refl _));have kz9:=HZC.out w9 Q2.out;obtain⟨r1,r2,r3,r4,r5,r6⟩:=HPUT.out w9 tv' (X++[y]) Q2.out Q1.out P6.out;have R1:=aA r1;have R2:=aA r2;have R3:=aA r3;have R5:=aA r5;have R6:=aA r6;have R7:=HX2.out;clear q1 q2 q3 r1 r2 r3 r5 r6)|(at_builtin;refine eJ rfl (.tmp 52) (.tmp 57) rfl R1.out rfl rfl rfl R2.out R3.out r4 R7 ?_;intro tv'' w10 q1 q2 q3;have Q3:=aA q1;have Q4:=aA (q2 _ _ R5.out (Nat.le_refl _));clear q1 q2 q3));go_roundw;case rel=>exact⟨k+1,true,X++[y]++[z],by omega,by have e:X=A.take k:=HI.out.eq;have e2:X.length≤k:=(by rw[e,List.length_take];omega);rw[List.length_append,List.length_append];simp;omega,by go_num,rfl,Q4.out,Q3.out,by rw[HTK.out];exact HI4.out,R6.out⟩
       case measure=>simp[intOf];omega
     ·have HI4:=aA (HI.out.go z);clear kz;have ne:=bJ.there wr
      go_wp2_with fail;refine aG (by kernel_rfl) (by kernel_rfl) ?_;repeat(go_big_quiet_step (fail))
      refine wpQuiet_nil ?_;rintro _ ⟨v,rfl⟩;have hv:Below wr.heap.size wr v.1:=v.2
      generalize v.1=V at hv⊢;clear v ne;obtain⟨p1,p2,p3,p4,p5,p6⟩:=HPUT.out V u7 X (aB HB2.out hv) (HX.out.below hv) HXM.out;have kzd:=HZC.out V (aB HB2.out hv)
      have P1:=aA p1;have P2:=aA p2
      have P3:=aA p3;have P5:=aA p5
      have P6:=aA p6;clear p1 p2 p3 p5 p6 hv;go_wp2_with (at_builtin;refine eJ rfl (.tmp 52) (.tmp 57) rfl P1.out rfl rfl rfl P2.out P3.out p4 hX1 ?_;intro tv' w9 q1 q2 q3;have Q1:=aA q1;have Q2:=aA (q2 _ _ P5.out (Nat.le_refl _));clear q1 q2 q3);go_roundw;case rel=>exact⟨k+1,true,X++[z],by omega,by rw[List.length_append];simp;omega,by go_num,rfl,Q2.out,Q1.out,by rw[HTK.out];exact HI4.out,P6.out⟩
      case measure=>simp[intOf];omega
    ·have hkj:¬(k:Int)<(j:Int):=by omega
     have hke:k=j:=by omega
     have HIA:Hid (rO (jL o) y A dn X):=by have:=HI.out;rw[hke,List.take_of_length_le (by rw[HAL.out];omega)]at this;exact this
     have HFIN:Hid (∀(W:World) (xv:Value) (Y:List E),Y=eX (jL o) y A→Below w1.heap.size w1 W→dA w1.heap.size W xv Y→Below w.heap.size w W∧dA w.heap.size W xv (iT (jL o) [] (es.take (j+1)))):=fun W xv Y e hW hR=>by refine⟨aB HB.out hW,?_⟩;rw[HNX.out,HAE.out,HY.out,←e];exact hR.weak HB.out.size
     subst hke;obtain⟨wo,hwo⟩:∃x,x=wr:=⟨_,rfl⟩
     subst hwo;clear hB2 hX hI hXm;cases dn
     ·have ky:=HYC.out wo (aB HB.out HB2.out);have hbx:=aC wo (.cells #[.slice y.a yl y.c] 45)
      have P1:=aA (HX.out.below hbx);have P2:Hid (nG (wo.alloc (.cells #[.slice y.a yl y.c] 45)) (some ⟨wo.heap.size,0,none⟩) 1 [y]):=by have:=nG.box (W:=wo) (e:=y) (Rd.below (HH.out.2.2.2 y HYM.out) (aB HB.out HB2.out));rw[show y.v= .slice y.a yl y.c by rw[←HYL.out];rfl]at this;exact this
      have P3:Hid (∀e∈[y],mU (wo.alloc (.cells #[.slice y.a yl y.c] 45)) u7.ownBlock e):=fun e he=>by
       rw[List.mem_singleton.1 he];refine mU.far (w:=w) (HH.out.2.2.2 y HYM.out) (aB (aB HB.out HB2.out) hbx) (fun q hq=>?_);have:=(P1.out.row.lt q hq).1
       omega
      have P5:=aA (aB HB2.out hbx);have p4:w1.heap.size≤(wo.alloc (.cells #[.slice y.a yl y.c] 45)).heap.size:=(aB HB2.out hbx).size
      have HL:=aA HIA.out.last;clear hbx;go_wp2_with (at_builtin;refine eJ rfl (.tmp 61) (.tmp 66) rfl P1.out rfl rfl rfl P2.out P3.out p4 hX1 ?_;intro tv' w9 q1 q2 q3;have Q1:=aA (HFIN.out w9 tv' _ HL.out (q2 _ _ P5.out (Nat.le_refl _)) q1);clear q1 q2 q3);go_roundw;case rel=>exact⟨k+1,by omega,by go_num,Q1.out.1,Q1.out.2⟩
      case measure=>simp[intOf];omega
     ·have Q1:=aA (HFIN.out wo u7 X HIA.out.done HB2.out HX.out);go_wp2;go_roundw;case rel=>exact⟨k+1,by omega,by go_num,Q1.out.1,Q1.out.2⟩
      case measure=>simp[intOf];omega
  ·have hjn:¬(j:Int)<(n:Int):=by omega
   have hje:j=n:=by omega
   have HF:Hid (dA w.heap.size wr u5 (iT (jL o) [] es)):=by have:=hA;rw[hje,List.take_of_length_le (by rw[HN.out];omega)]at this;exact this
   subst hje;clear hB hA;go_wp2;go_ret;exact⟨_,rfl,HB.out,HF.out⟩
end Go.Proofs.YtdidlcjhodejjaaGreat
