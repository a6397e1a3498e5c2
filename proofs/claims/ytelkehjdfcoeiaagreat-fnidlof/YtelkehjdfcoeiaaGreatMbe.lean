/-
  The model's least basis: who is needed (spec.l10Least).
-/
import Derived.Test.YtelkehjdfcoeiaaGreatMbc
set_option maxHeartbeats 8000000
set_option maxRecDepth 100000
namespace Go.Proofs.YtelkehjdfcoeiaaGreat
open Go.RowKit Go.Deep Go.Joins
set_option linter.unusedVariables false
set_option linter.unusedSimpArgs false
theorem PC {k:Nat→M} {i j:Nat} (h:j≠i∧M.dvd (k j) (k i)=true∧(eF (k j) (k i)=false∨j<i)):jS k i (j+1)=false:=decide_eq_false (fun hh=>hh j (Nat.lt_succ_self j) h)
theorem LF {k:Nat→M} {i j:Nat} (h:¬(j≠i∧M.dvd (k j) (k i)=true∧(eF (k j) (k i)=false∨j<i))):jS k i (j+1)=jS k i j:=by
 unfold jS;refine decide_eq_decide.2 ⟨fun hh t ht=>hh t (by omega),fun hh t ht=>?_⟩;by_cases e:t=j
 ·rw[e];exact h
 ·exact hh t (by omega)
theorem PD {k:Nat→M} {i j:Nat} (h:jS k i j=false):jS k i (j+1)=false:=by
 cases hq:jS k i (j+1)
 ·rfl
 ·have h1:=of_decide_eq_true hq;have h2:=of_decide_eq_false h
  exact absurd (fun t ht=>h1 t (by omega)) h2
theorem LG (k:Nat→M) (i:Nat):jS k i 0=true:=decide_eq_true (fun t ht=>absurd ht (tD _))
structure XH (w:World) (o:Int) (a:Option Addr) (n cap:Nat) (ad:Nat→Option Addr) (cp:Nat→Nat) (L:Nat→List T):Prop where
 rd:eQ w a n cap ad (lN L) cp (fN L)
 ho:1≤o∧o≤3
 ok:∀i,i<n→cF (L i)=true∧(L i).length≠0
theorem XH.below {w w':World} {o:Int} {a:Option Addr} {n cap:Nat} {ad:Nat→Option Addr} {cp:Nat→Nat} {L:Nat→List T} (h:XH w o a n cap ad cp L) (hb:Below w.heap.size w w'):XH w' o a n cap ad cp L:=⟨h.rd.below hb,h.ho,h.ok⟩
theorem GI {W:World} {o:Int} {a:Option Addr} {c:Nat} {p:List T} (h:RL W a c p) (hp:cF p=true) (h0:p.length≠0) {k:Int} {m:M} (hk:(aU o p).c=k) (hm:(aU o p).m=m):Calls Tryz.prog 113 #[.int .i64 o,.slice a p.length c] W fun r w'=>r= .returned (.agg #[.int .i64 k,.int .i64 m.x,.int .i64 m.y,.int .i64 m.d,.int .i64 m.e])∧Below W.heap.size W w':=by have:=sE W o a p.length c (lf p) h (by omega) (fun i hi=>((aD hp).2.2 _ (kU hi)).1);rw[show lf p (bC o (lf p) p.length)=aU o p from rfl,hk,hm]at this;exact this
theorem UY (w:World) (o:Int) (a:Option Addr) (n cap:Nat) (ad:Nat→Option Addr) (cp:Nat→Nat) (L:Nat→List T) (h:XH w o a n cap ad cp L) (n12:n≤12):Calls Tryz.prog 90 #[.int .i64 o,.slice a n cap] w fun r w'=>∃tv,r= .returned tv∧Below w.heap.size w w'∧cT w.heap.size w' tv (gS (jR (fun i=>(aU o (L i)).m) n) (gK ad cp L) n):=by
 obtain⟨i0,hi0,hz0,hz1,hz2⟩:=rJ;have HH:=aA h
 have hnl:(n:Int)≤12:=by omega
 obtain⟨kf,hkf⟩:∃kf:Nat→M,(fun i=>(aU o (L i)).m)=kf:=⟨_,rfl⟩
 obtain⟨cf,hcf⟩:∃cf:Nat→Int,(fun i=>(aU o (L i)).c)=cf:=⟨_,rfl⟩
 rw[hkf]
 have HLE:Hid (∀i,i<n→∀W,Below w.heap.size w W→Calls Tryz.prog 113 #[.int .i64 o,.slice (ad i) (L i).length (cp i)] W fun r w'=>r= .returned (.agg #[.int .i64 (cf i),.int .i64 (kf i).x,.int .i64 (kf i).y,.int .i64 (kf i).d,.int .i64 (kf i).e])∧Below W.heap.size W w'):=fun i hi W hW=>
  GI ((h.below hW).rd.2.2.2 i hi) (h.ok i hi).1 (h.ok i hi).2 (congrFun hcf i) (congrFun hkf i)
 have HC1:Hid (∀i,i<n→∃b1 off1,a=some ⟨b1,off1,none⟩∧b1<w.heap.size∧∀W,Below w.heap.size w W→W.cell? ⟨b1,off1+i,none⟩=some (.slice (ad i) (L i).length (cp i))):=fun i hi=>by obtain⟨b1,off1,ea,hb1,hc1⟩:=h.rd.2.2.1.resolve_left (by omega);exact⟨b1,off1,ea,hb1,fun W hW=>(hW.cell (p:=⟨b1,off1+i,none⟩) hb1).trans (hc1 i hi)⟩
 have HS0:=aA (cT.start (w:=w) (Nat.le_refl _));clear h hkf hcf;go_enter Tryz.func90,Tryz.ntmps90;go_wp2;go_loopw [5,6] (fun tv ii wr=>∃(j:Nat),j≤n∧ii= .int .i64 (j:Int)∧Below w.heap.size w wr∧cT w.heap.size wr tv (gS (jR kf n) (gK ad cp L) j)) (fun _ ii _=>n-(intOf ii).toNat);case atStart=>exact⟨0,Nat.zero_le _,rfl,aC _ _,HS0.out⟩
 case round=>
  obtain⟨j,hj,rfl,hB,hA⟩:=hrel;have HB:=aA hB
  have HA:=aA hA;by_cases hlt:j<n
  ·have hjn:(j:Int)<(n:Int):=by omega
   obtain⟨b1,off1,rfl,hb1,hc1⟩:=HC1.out j hlt;obtain⟨l,hl⟩:∃l,(L j).length=l:=⟨_,rfl⟩
   have kc:wr.cell? ⟨b1,off1+j,none⟩=some (.slice (ad j) l (cp j)):=by rw[←hl];exact hc1 wr hB
   have hcall:=HLE.out j hlt wr hB;rw[hl]at hcall;have HCL:=aA hcall
   have HL:=aA hl;obtain⟨m,hm⟩:∃m,kf j=m:=⟨_,rfl⟩
   rw[hm]at HCL;have HM:=aA hm
   have hfield:∀W:World,(Instr.field 86 (Value.agg #[.int .i64 (cf j),.int .i64 m.x,.int .i64 m.y,.int .i64 m.d,.int .i64 m.e]) 1).run Tryz.prog W= .ok (Value.agg #[.int .i64 m.x,.int .i64 m.y,.int .i64 m.d,.int .i64 m.e]) W:=fun W=>by kernel_rfl
   clear hB hA hc1 hcall hl hm;go_wp2_with fail;refine HCL.out.mono ?_;rintro r w2 ⟨rfl,hb2⟩;have HB2:=aA (aB (aB HB.out hb2) (aC w2 (.cells #[.int .i64 m.x,.int .i64 m.y,.int .i64 m.d,.int .i64 m.e] 84)))
   have HA2:=aA ((HA.out.below hb2).below (aC w2 (.cells #[.int .i64 m.x,.int .i64 m.y,.int .i64 m.d,.int .i64 m.e] 84)));have HM2:=aA (M4.box w2 84 m.x m.y m.d m.e)
   have hsz2:w2.heap.size<(w2.alloc (.cells #[.int .i64 m.x,.int .i64 m.y,.int .i64 m.d,.int .i64 m.e] 84)).heap.size:=by simp
   have hlo2:w.heap.size≤w2.heap.size:=by have:=hb2.size;have:=HB.out.size;omega
   clear hb2 kc HCL;go_wp2;generalize(w2.alloc (.cells #[.int .i64 m.x,.int .i64 m.y,.int .i64 m.d,.int .i64 m.e] 84))=w3 at HB2 HA2 HM2 hsz2⊢;obtain⟨B,hBe⟩:∃B,w2.heap.size=B:=⟨_,rfl⟩
   rw[hBe]at HM2 hsz2 hlo2⊢;clear hBe;go_loopw [8,9] (fun bv ki w'=>∃(i:Nat),i≤n∧ki= .int .i64 (i:Int)∧bv= .bool (jS kf j i)∧Below w3.heap.size w3 w') (fun _ ki _=>n-(intOf ki).toNat);case atStart=>exact⟨0,Nat.zero_le _,rfl,by rw[LG],bG _ _⟩
   case round=>
    obtain⟨i,hi,rfl,rfl,hB4⟩:=hrel;have HB4:=aA hB4
    obtain⟨nb,hnb⟩:∃nb,jS kf j i=nb:=⟨_,rfl⟩
    rw[hnb];have HNB:=aA hnb
    clear hnb;by_cases hit:i<n
    ·have hin:(i:Int)<(n:Int):=by omega
     obtain⟨b1',off1',ea,hb1',hc1⟩:=HC1.out i hit;cases ea;obtain⟨l',hl'⟩:∃l',(L i).length=l':=⟨_,rfl⟩
     have hBr:=aB HB2.out hB4;have kc:wr.cell? ⟨b1,off1+i,none⟩=some (.slice (ad i) l' (cp i)):=by rw[←hl'];exact hc1 wr hBr
     have hcall:=HLE.out i hit wr hBr;rw[hl']at hcall;have HCL:=aA hcall
     obtain⟨m',hm'⟩:∃m',kf i=m':=⟨_,rfl⟩
     rw[hm']at HCL;have HM':=aA hm'
     have hfield':∀W:World,(Instr.field 86 (Value.agg #[.int .i64 (cf i),.int .i64 m'.x,.int .i64 m'.y,.int .i64 m'.d,.int .i64 m'.e]) 1).run Tryz.prog W= .ok (Value.agg #[.int .i64 m'.x,.int .i64 m'.y,.int .i64 m'.d,.int .i64 m'.e]) W:=fun W=>by kernel_rfl
     have hbad:(i≠j∧M.dvd m' m=true∧(eF m' m=false∨i<j))→jS kf j (i+1)=false:=fun hh=>PC (by rw[HM'.out,HM.out];exact hh);have hkeep:¬(i≠j∧M.dvd m' m=true∧(eF m' m=false∨i<j))→jS kf j (i+1)=nb:=fun hh=>by rw[LF (by rw[HM'.out,HM.out];exact hh),HNB.out]
     have hnot:nb=false→jS kf j (i+1)=false:=fun e=>PD (by rw[HNB.out,e]);have HBAD:=aA hbad
     have HKEEP:=aA hkeep;have HNOT:=aA hnot
     obtain⟨dv,hdv⟩:∃dv,M.dvd m' m=dv:=⟨_,rfl⟩
     have HDC:Hid (∀W:World,Calls Tryz.prog 133 #[.agg #[.int .i64 m'.x,.int .i64 m'.y,.int .i64 m'.d,.int .i64 m'.e],.agg #[.int .i64 m.x,.int .i64 m.y,.int .i64 m.d,.int .i64 m.e]] W fun r w'=>r= .returned (.bool dv)∧Below W.heap.size W w'):=fun W=>kI (x:=m'.x) (y:=m'.y) (d:=m'.d) (e:=m'.e) (x':=m.x) (y':=m.y) (d':=m.d) (e':=m.e) hdv W;have HDV:=aA hdv
     clear hB4 hc1 hcall hl' hm' hBr hbad hkeep hnot hdv HNB;go_wp2_with fail;refine HCL.out.mono ?_;rintro r w5 ⟨rfl,hb5⟩;have bx:=aC w5 (.cells #[.int .i64 m'.x,.int .i64 m'.y,.int .i64 m'.d,.int .i64 m'.e] 84)
     have HB5:=aA (aB (aB HB4.out hb5) bx);obtain⟨x0,x1,x2,x3⟩:=((HM2.out.below HB4.out).below hb5).below bx;obtain⟨y0,y1,y2,y3⟩:=M4.box w5 84 m'.x m'.y m'.d m'.e;have HX:=aA (((HM2.out.below HB4.out).below hb5).below bx)
     have HY:=aA (M4.box w5 84 m'.x m'.y m'.d m'.e);clear hb5 bx kc HCL;cases nb
     ·have HN:=aA (HNOT.out rfl);clear HBAD HKEEP HNOT;go_wp2;go_roundw;case rel=>exact⟨i+1,by omega,by go_num,by rw[HN.out],HB5.out⟩
      case measure=>simp[intOf];omega
     ·by_cases hij:i=j
      ·have HN:=aA (HKEEP.out (fun hh=>hh.1 hij));have hneb:((i:Int)!=(j:Int))=false:=by simp;omega
       clear HBAD HKEEP HNOT hij;go_wp2;go_roundw;case rel=>exact⟨i+1,by omega,by go_num,by rw[HN.out],HB5.out⟩
       case measure=>simp[intOf];omega
      ·have hneb:((i:Int)!=(j:Int))=true:=by simp;omega
       cases dv
       ·have HN:=aA (HKEEP.out (fun hh=>by have:=hh.2.1;rw[HDV.out]at this;cases this));clear HBAD HKEEP HNOT;go_wp2_with fail;refine(HDC.out _).mono ?_;rintro r w6 ⟨rfl,hb6⟩;have HB6:=aA (aB HB5.out hb6)
        clear hb6;go_wp2;go_roundw;case rel=>exact⟨i+1,by omega,by go_num,by rw[HN.out],HB6.out⟩
        case measure=>simp[intOf];omega
       ·go_wp2_with fail;refine(HDC.out _).mono ?_;rintro r w6 ⟨rfl,hb6⟩;have HB6:=aA (aB HB5.out hb6)
        obtain⟨z0,z1,z2,z3⟩:=HX.out.below hb6;obtain⟨v0,v1,v2,v3⟩:=HY.out.below hb6;clear hb6 x0 x1 x2 x3 y0 y1 y2 y3;have done:∀b,jS kf j (i+1)=b→Hid (jS kf j (i+1)=b):=fun _ h=>h
        by_cases hx:m'.x=m.x
        ·by_cases hy:m'.y=m.y
         ·by_cases hd:m'.d=m.d
          ·by_cases he:m'.e=m.e
           ·have heq:eF m' m=true:=decide_eq_true ⟨hx,hy,hd,he⟩;by_cases hlj:i<j
            ·have HN:=done _ (HBAD.out ⟨hij,HDV.out,.inr hlj⟩);have hljI:(i:Int)<(j:Int):=by omega
             clear heq HBAD HKEEP HNOT;go_wp2;go_roundw;case rel=>exact⟨i+1,by omega,by go_num,by rw[HN.out],HB6.out⟩
             case measure=>simp[intOf];omega
            ·have HN:=done _ (HKEEP.out (fun hh=>by
              rcases hh.2.2 with q|q
              ·rw[heq]at q;cases q
              ·exact hlj q))
             have hljI:¬(i:Int)<(j:Int):=by omega
             clear heq HBAD HKEEP HNOT;go_wp2;go_roundw;case rel=>exact⟨i+1,by omega,by go_num,by rw[HN.out],HB6.out⟩
             case measure=>simp[intOf];omega
           ·have HN:=done _ (HBAD.out ⟨hij,HDV.out,.inl (decide_eq_false (fun q=>he q.2.2.2))⟩);clear HBAD HKEEP HNOT;go_wp2;go_roundw;case rel=>exact⟨i+1,by omega,by go_num,by rw[HN.out],HB6.out⟩
            case measure=>simp[intOf];omega
          ·have HN:=done _ (HBAD.out ⟨hij,HDV.out,.inl (decide_eq_false (fun q=>hd q.2.2.1))⟩);clear HBAD HKEEP HNOT;go_wp2;go_roundw;case rel=>exact⟨i+1,by omega,by go_num,by rw[HN.out],HB6.out⟩
           case measure=>simp[intOf];omega
         ·have HN:=done _ (HBAD.out ⟨hij,HDV.out,.inl (decide_eq_false (fun q=>hy q.2.1))⟩);clear HBAD HKEEP HNOT;go_wp2;go_roundw;case rel=>exact⟨i+1,by omega,by go_num,by rw[HN.out],HB6.out⟩
          case measure=>simp[intOf];omega
        ·have HN:=done _ (HBAD.out ⟨hij,HDV.out,.inl (decide_eq_false (fun q=>hx q.1))⟩);clear HBAD HKEEP HNOT;go_wp2;go_roundw;case rel=>exact⟨i+1,by omega,by go_num,by rw[HN.out],HB6.out⟩
         case measure=>simp[intOf];omega
    ·have hin:¬(i:Int)<(n:Int):=by omega
     have hie:i=n:=by omega
     have hnd:jR kf n j=nb:=by rw[←HNB.out,hie];rfl
     have HBr:=aA (aB HB2.out HB4.out);have HAr:=aA (HA2.out.below HB4.out)
     have hskip:nb=false→gS (jR kf n) (gK ad cp L) (j+1)=gS (jR kf n) (gK ad cp L) j:=fun hg=>if_neg (by rw[hnd,hg];simp);have htake:nb=true→gS (jR kf n) (gK ad cp L) (j+1)=gS (jR kf n) (gK ad cp L) j++[gK ad cp L j]:=fun hg=>if_pos (by rw[hnd,hg])
     have HSK:=aA hskip;have HTK:=aA htake
     subst hie;obtain⟨wo,hwo⟩:∃x,x=wr:=⟨_,rfl⟩
     subst hwo;clear hB4 hskip htake hnd HNB;cases nb
     ·have HS:=aA (HSK.out rfl);clear HSK HTK;go_wp2;go_roundw;case rel=>exact⟨j+1,by omega,by go_num,HBr.out,by rw[HS.out];exact HAr.out⟩
      case measure=>simp[intOf];omega
     ·have HT:=aA (HTK.out rfl);clear HSK HTK;obtain⟨b1',off1',ea,hb1',hc1⟩:=HC1.out j hlt;cases ea;have kc:wo.cell? ⟨b1,off1+j,none⟩=some (.slice (ad j) l (cp j)):=by rw[←HL.out];exact hc1 wo HBr.out
      have hrow:=HAr.out.row;have hjl:=pP (jR kf i) (gK ad cp L) j
      obtain⟨q,hq⟩:∃q,(gS (jR kf i) (gK ad cp L) j).length=q:=⟨_,rfl⟩
      rw[hq]at hrow hjl;have bx:=aC wo (.cells #[.slice (ad j) l (cp j)] 41)
      have HB7:=aA (aB HBr.out bx);have HA7:=aA (HAr.out.below bx)
      have hrow7:=HA7.out.row;rw[hq]at hrow7;have hnews:∀jj u,[Value.slice (ad j) l (cp j)][jj]? =some u→(wo.alloc (.cells #[.slice (ad j) l (cp j)] 41)).cell? ((⟨wo.heap.size,0,none⟩:Addr).add jj)=some u:=World.news_of_block (heap_alloc_new wo _)
      have hone:∀u∈[Value.slice (ad j) l (cp j)],u.oneCell'=true:=fun u hu=>by
       have:u= .slice (ad j) l (cp j):=by simpa using hu
       subst this;rfl
      have hbase:w.heap.size≤(wo.alloc (.cells #[.slice (ad j) l (cp j)] 41)).heap.size:=HB7.out.size;have HEL:Hid (lW (wo.alloc (.cells #[.slice (ad j) l (cp j)] 41)) u5.ownBlock (gK ad cp L j)):=by refine lW.far (w:=w) (HH.out.rd.el hlt) HB7.out (fun k hk=>?_);exact(HA7.out.row.lt k hk).1
      have HRND:Hid (∀(g0 cap0:Nat) (w8:World),w8.ownsRow w.heap.size 41 1 (.slice (some ⟨g0,0,none⟩) (q+1) cap0) (q+1) ((gS (jR kf i) (gK ad cp L) j).map E.v++[.slice (ad j) l (cp j)])→(wo.alloc (.cells #[.slice (ad j) l (cp j)] 41)).grownBy w8 u5.ownBlock→(u5.ownBlock=some g0∨g0=(wo.alloc (.cells #[.slice (ad j) l (cp j)] 41)).heap.size)→cT w.heap.size w8 (.slice (some ⟨g0,0,none⟩) (q+1) cap0) (gS (jR kf i) (gK ad cp L) (j+1))):=fun g0 cap0 w8 p1 p2 p3=>by have:=HA7.out.app (es':=[gK ad cp L j]) (fun e he=>by rw[List.mem_singleton.1 he];exact HEL.out) (g0:=g0) (cap0:=cap0) p2 (by rw[hq];show w8.ownsRow _ _ _ _ (q+1) (_++[Value.slice (ad j) (L j).length (cp j)]);rw[HL.out];exact p1) p3;rw[hq]at this;rw[HT.out];exact this
      clear bx hc1 hq hrow;go_wp2_with (at_builtin;refine wpList_append_lies _ rfl (.tmp 61) (.tmp 66) 24 rfl w.heap.size 41 i0 _ 1 24 Tryz.underlying24 hi0 hz0 hz1 hz2 rfl (by omega) _ q ((gS (jR kf i) (gK ad cp L) j).map E.v) rfl hrow7 ⟨wo.heap.size,0,none⟩ 1 1 [.slice (ad j) l (cp j)] rfl rfl hnews hone (by omega) (by unfold maxLen;omega) (by omega) hbase _ rfl ?_;intro g0 cap0 w8 hown1 hgrow hat hlt1;have HX:=aA (HRND.out g0 cap0 w8 hown1 hgrow hat);have HB8:=aA (HB7.out.grown hgrow hbase (fun k e=>(HA7.out.row.lt k e).1));clear hown1 hgrow hat hlt1 hnews hone hrow7 hbase);go_roundw;case rel=>exact⟨j+1,by omega,by go_num,HB8.out,HX.out⟩
      case measure=>simp[intOf];omega
  ·have hjn:¬(j:Int)<(n:Int):=by omega
   have hje:j=n:=by omega
   subst hje;clear hB hA;go_wp2;go_ret;exact⟨_,rfl,HB.out,HA.out⟩
end Go.Proofs.YtelkehjdfcoeiaaGreat
