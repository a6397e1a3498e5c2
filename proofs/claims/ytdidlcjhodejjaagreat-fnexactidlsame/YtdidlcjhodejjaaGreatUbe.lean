/-
  The model's least basis: who is needed (spec.l10Least).
-/
import Derived.Test.YtdidlcjhodejjaaGreatUbc
import Derived.Test.YtdidlcjhodejjaaGreatUbd
import Derived.Test.YtdidlcjhodejjaaGreatUbb
import Derived.Test.YtdidlcjhodejjaaGreatUav
import Derived.Test.YtdidlcjhodejjaaGreatUaw
namespace Go.Proofs.YtdidlcjhodejjaaGreat
open Go.RowKit Go.Deep Go.Joins
set_option linter.unusedVariables false
set_option linter.unusedSimpArgs false
theorem needTo_bad {k:Nat→M} {i j:Nat} (h:j≠i∧M.dvd (k j) (k i)=true∧(meqB (k j) (k i)=false∨j<i)):needTo k i (j+1)=false:=decide_eq_false (fun hh=>hh j (Nat.lt_succ_self j) h)
theorem needTo_keep {k:Nat→M} {i j:Nat} (h:¬ (j≠i∧M.dvd (k j) (k i)=true∧(meqB (k j) (k i)=false∨j<i))):needTo k i (j+1)=needTo k i j:=by
 unfold needTo
 refine decide_eq_decide.2 ⟨fun hh t ht=>hh t (by omega),fun hh t ht=>?_⟩
 by_cases e:t=j
 ·rw [e];exact h
 ·exact hh t (by omega)
theorem needTo_not {k:Nat→M} {i j:Nat} (h:needTo k i j=false):needTo k i (j+1)=false:=by
 cases hq:needTo k i (j+1)
 ·rfl
 ·have h1:=of_decide_eq_true hq
  have h2:=of_decide_eq_false h
  exact absurd (fun t ht=>h1 t (by omega)) h2
theorem needTo_zero (k:Nat→M) (i:Nat):needTo k i 0=true:=decide_eq_true (fun t ht=>absurd ht (Nat.not_lt_zero _))
structure SrcL (w:World) (o:Int) (a:Option Addr) (n cap:Nat) (ad:Nat→Option Addr) (cp:Nat→Nat) (L:Nat→List T):Prop where
 rd:RdS w a n cap ad (lN L) cp (fN L)
 ho:1≤o∧o≤3
 ok:∀ i,i<n→okL (L i)=true∧(L i).length≠0
theorem SrcL.below {w w':World} {o:Int} {a:Option Addr} {n cap:Nat} {ad:Nat→Option Addr} {cp:Nat→Nat} {L:Nat→List T} (h:SrcL w o a n cap ad cp L) (hb:Below w.heap.size w w'):SrcL w' o a n cap ad cp L:=⟨h.rd.below hb,h.ho,h.ok⟩
theorem leadL_S {W:World} {o:Int} {a:Option Addr} {c:Nat} {p:List T} (h:RL W a c p) (hp:okL p=true) (h0:p.length≠0) {k:Int} {m:M} (hk:(ldL o p).c=k) (hm:(ldL o p).m=m) :
  Calls Tryz.prog 61 #[.int .i64 o,.slice a p.length c] W fun r w'=>r=.returned (.agg #[.int .i64 k,.int .i64 m.x,.int .i64 m.y,.int .i64 m.d,.int .i64 m.e])∧Below W.heap.size W w':=by
 have:=l3LeadS W o a p.length c (lf p) h (by omega) (fun i hi=>((okL_falls hp).2.2 _ (lf_mem hi)).1)
 rw [show lf p (leadAt o (lf p) p.length)=ldL o p from rfl,hk,hm] at this
 exact this
set_option maxRecDepth 100000 in
set_option maxHeartbeats 8000000 in
theorem l10LeastS (w:World) (o:Int) (a:Option Addr) (n cap:Nat) (ad:Nat→Option Addr) (cp:Nat→Nat) (L:Nat→List T) (h:SrcL w o a n cap ad cp L) (n12:n≤12) :
  Calls Tryz.prog 41 #[.int .i64 o,.slice a n cap] w fun r w'=>∃ tv,r=.returned tv∧Below w.heap.size w w'∧RowE w.heap.size w' tv (selN (need (fun i=>(ldL o (L i)).m) n) (esOf ad cp L) n):=by
 obtain ⟨i0,hi0,hz0,hz1,hz2⟩:=info_glP
 have HH:=Hid.mk' h
 have hnl:(n:Int)≤12:=by omega
 obtain ⟨kf,hkf⟩:∃ kf:Nat→M,(fun i=>(ldL o (L i)).m)=kf:=⟨_,rfl⟩
 obtain ⟨cf,hcf⟩:∃ cf:Nat→Int,(fun i=>(ldL o (L i)).c)=cf:=⟨_,rfl⟩
 rw [hkf]
 have HLE:Hid (∀ i,i<n→∀ W,Below w.heap.size w W→Calls Tryz.prog 61 #[.int .i64 o,.slice (ad i) (L i).length (cp i)] W fun r w'=>r=.returned (.agg #[.int .i64 (cf i),.int .i64 (kf i).x,.int .i64 (kf i).y,.int .i64 (kf i).d,.int .i64 (kf i).e])∧Below W.heap.size W w'):=fun i hi W hW=>
  leadL_S ((h.below hW).rd.2.2.2 i hi) (h.ok i hi).1 (h.ok i hi).2 (congrFun hcf i) (congrFun hkf i)
 have HC1:Hid (∀ i,i<n→∃ b1 off1,a=some ⟨b1,off1,none⟩∧b1<w.heap.size∧∀ W,Below w.heap.size w W→W.cell? ⟨b1,off1+i,none⟩=some (.slice (ad i) (L i).length (cp i))):=fun i hi=>by
  obtain ⟨b1,off1,ea,hb1,hc1⟩:=h.rd.2.2.1.resolve_left (by omega)
  exact ⟨b1,off1,ea,hb1,fun W hW=>(hW.cell (p:=⟨b1,off1+i,none⟩) hb1).trans (hc1 i hi)⟩
 have HS0:=Hid.mk' (RowE.start (w:=w) (Nat.le_refl _))
 clear h hkf hcf
 go_enter Tryz.func41,Tryz.ntmps41
 go_wp2
 go_loopw [5,6] (fun tv ii wr=>∃ (j:Nat),j≤n∧ii=.int .i64 (j:Int)∧Below w.heap.size w wr∧RowE w.heap.size wr tv (selN (need kf n) (esOf ad cp L) j)) (fun _ ii _=>n - (intOf ii).toNat)
 case atStart=>exact ⟨0,Nat.zero_le _,rfl,bel_one _ _,HS0.out⟩
 case round=>
  obtain ⟨j,hj,rfl,hB,hA⟩:=hrel
  have HB:=Hid.mk' hB
  have HA:=Hid.mk' hA
  by_cases hlt:j<n
  ·have hjn:(j:Int)<(n:Int):=by omega
   obtain ⟨b1,off1,rfl,hb1,hc1⟩:=HC1.out j hlt
   obtain ⟨l,hl⟩:∃ l,(L j).length=l:=⟨_,rfl⟩
   have kc:wr.cell? ⟨b1,off1+j,none⟩=some (.slice (ad j) l (cp j)):=by rw [← hl];exact hc1 wr hB
   have hcall:=HLE.out j hlt wr hB
   rw [hl] at hcall
   have HCL:=Hid.mk' hcall
   have HL:=Hid.mk' hl
   obtain ⟨m,hm⟩:∃ m,kf j=m:=⟨_,rfl⟩
   rw [hm] at HCL
   have HM:=Hid.mk' hm
   have hfield:∀ W:World,(Instr.field 42 (Value.agg #[.int .i64 (cf j),.int .i64 m.x,.int .i64 m.y,.int .i64 m.d,.int .i64 m.e]) 1).run Tryz.prog W=.ok (Value.agg #[.int .i64 m.x,.int .i64 m.y,.int .i64 m.d,.int .i64 m.e]) W:=fun W=>by kernel_rfl
   clear hB hA hc1 hcall hl hm
   go_wp2_with fail
   refine HCL.out.mono ?_
   rintro r w2 ⟨rfl,hb2⟩
   have HB2:=Hid.mk' (bel_next (bel_next HB.out hb2) (bel_one w2 (.cells #[.int .i64 m.x,.int .i64 m.y,.int .i64 m.d,.int .i64 m.e] 40)))
   have HA2:=Hid.mk' ((HA.out.below hb2).below (bel_one w2 (.cells #[.int .i64 m.x,.int .i64 m.y,.int .i64 m.d,.int .i64 m.e] 40)))
   have HM2:=Hid.mk' (M4.box w2 40 m.x m.y m.d m.e)
   have hsz2:w2.heap.size<(w2.alloc (.cells #[.int .i64 m.x,.int .i64 m.y,.int .i64 m.d,.int .i64 m.e] 40)).heap.size:=by simp
   have hlo2:w.heap.size≤w2.heap.size:=by have:=hb2.size;have:=HB.out.size;omega
   clear hb2 kc HCL
   go_wp2
   generalize (w2.alloc (.cells #[.int .i64 m.x,.int .i64 m.y,.int .i64 m.d,.int .i64 m.e] 40))=w3 at HB2 HA2 HM2 hsz2 ⊢
   obtain ⟨B,hBe⟩:∃ B,w2.heap.size=B:=⟨_,rfl⟩
   rw [hBe] at HM2 hsz2 hlo2 ⊢
   clear hBe
   go_loopw [8,9] (fun bv ki w'=>∃ (i:Nat),i≤n∧ki=.int .i64 (i:Int)∧bv=.bool (needTo kf j i)∧Below w3.heap.size w3 w') (fun _ ki _=>n - (intOf ki).toNat)
   case atStart=>exact ⟨0,Nat.zero_le _,rfl,by rw [needTo_zero],Below.refl _ _⟩
   case round=>
    obtain ⟨i,hi,rfl,rfl,hB4⟩:=hrel
    have HB4:=Hid.mk' hB4
    obtain ⟨nb,hnb⟩:∃ nb,needTo kf j i=nb:=⟨_,rfl⟩
    rw [hnb]
    have HNB:=Hid.mk' hnb
    clear hnb
    by_cases hit:i<n
    ·have hin:(i:Int)<(n:Int):=by omega
     obtain ⟨b1',off1',ea,hb1',hc1⟩:=HC1.out i hit
     cases ea
     obtain ⟨l',hl'⟩:∃ l',(L i).length=l':=⟨_,rfl⟩
     have hBr:=bel_next HB2.out hB4
     have kc:wr.cell? ⟨b1,off1+i,none⟩=some (.slice (ad i) l' (cp i)):=by rw [← hl'];exact hc1 wr hBr
     have hcall:=HLE.out i hit wr hBr
     rw [hl'] at hcall
     have HCL:=Hid.mk' hcall
     obtain ⟨m',hm'⟩:∃ m',kf i=m':=⟨_,rfl⟩
     rw [hm'] at HCL
     have HM':=Hid.mk' hm'
     have hfield':∀ W:World,(Instr.field 42 (Value.agg #[.int .i64 (cf i),.int .i64 m'.x,.int .i64 m'.y,.int .i64 m'.d,.int .i64 m'.e]) 1).run Tryz.prog W=.ok (Value.agg #[.int .i64 m'.x,.int .i64 m'.y,.int .i64 m'.d,.int .i64 m'.e]) W:=fun W=>by kernel_rfl
     have hbad:(i≠j∧M.dvd m' m=true∧(meqB m' m=false∨i<j))→needTo kf j (i+1)=false:=fun hh=>needTo_bad (by rw [HM'.out,HM.out];exact hh)
     have hkeep:¬ (i≠j∧M.dvd m' m=true∧(meqB m' m=false∨i<j))→needTo kf j (i+1)=nb:=fun hh=>by rw [needTo_keep (by rw [HM'.out,HM.out];exact hh),HNB.out]
     have hnot:nb=false→needTo kf j (i+1)=false:=fun e=>needTo_not (by rw [HNB.out,e])
     have HBAD:=Hid.mk' hbad
     have HKEEP:=Hid.mk' hkeep
     have HNOT:=Hid.mk' hnot
     obtain ⟨dv,hdv⟩:∃ dv,M.dvd m' m=dv:=⟨_,rfl⟩
     have HDC:Hid (∀ W:World,Calls Tryz.prog 83 #[.agg #[.int .i64 m'.x,.int .i64 m'.y,.int .i64 m'.d,.int .i64 m'.e],.agg #[.int .i64 m.x,.int .i64 m.y,.int .i64 m.d,.int .i64 m.e]] W fun r w'=>r=.returned (.bool dv)∧Below W.heap.size W w'):=fun W=>monDividesS_of (x:=m'.x) (y:=m'.y) (d:=m'.d) (e:=m'.e) (x':=m.x) (y':=m.y) (d':=m.d) (e':=m.e) hdv W
     have HDV:=Hid.mk' hdv
     clear hB4 hc1 hcall hl' hm' hBr hbad hkeep hnot hdv HNB
     go_wp2_with fail
     refine HCL.out.mono ?_
     rintro r w5 ⟨rfl,hb5⟩
     have bx:=bel_one w5 (.cells #[.int .i64 m'.x,.int .i64 m'.y,.int .i64 m'.d,.int .i64 m'.e] 40)
     have HB5:=Hid.mk' (bel_next (bel_next HB4.out hb5) bx)
     obtain ⟨x0,x1,x2,x3⟩:=((HM2.out.below HB4.out).below hb5).below bx
     obtain ⟨y0,y1,y2,y3⟩:=M4.box w5 40 m'.x m'.y m'.d m'.e
     have HX:=Hid.mk' (((HM2.out.below HB4.out).below hb5).below bx)
     have HY:=Hid.mk' (M4.box w5 40 m'.x m'.y m'.d m'.e)
     clear hb5 bx kc HCL
     cases nb
     ·have HN:=Hid.mk' (HNOT.out rfl)
      clear HBAD HKEEP HNOT
      go_wp2
      go_roundw
      case rel=>exact ⟨i+1,by omega,by go_num,by rw [HN.out],HB5.out⟩
      case measure=>simp [intOf];omega
     ·by_cases hij:i=j
      ·have HN:=Hid.mk' (HKEEP.out (fun hh=>hh.1 hij))
       have hneb:((i:Int) != (j:Int))=false:=by simp;omega
       clear HBAD HKEEP HNOT hij
       go_wp2
       go_roundw
       case rel=>exact ⟨i+1,by omega,by go_num,by rw [HN.out],HB5.out⟩
       case measure=>simp [intOf];omega
      ·have hneb:((i:Int) != (j:Int))=true:=by simp;omega
       cases dv
       ·have HN:=Hid.mk' (HKEEP.out (fun hh=>by have:=hh.2.1;rw [HDV.out] at this;cases this))
        clear HBAD HKEEP HNOT
        go_wp2_with fail
        refine (HDC.out _).mono ?_
        rintro r w6 ⟨rfl,hb6⟩
        have HB6:=Hid.mk' (bel_next HB5.out hb6)
        clear hb6
        go_wp2
        go_roundw
        case rel=>exact ⟨i+1,by omega,by go_num,by rw [HN.out],HB6.out⟩
        case measure=>simp [intOf];omega
       ·go_wp2_with fail
        refine (HDC.out _).mono ?_
        rintro r w6 ⟨rfl,hb6⟩
        have HB6:=Hid.mk' (bel_next HB5.out hb6)
        obtain ⟨z0,z1,z2,z3⟩:=HX.out.below hb6
        obtain ⟨v0,v1,v2,v3⟩:=HY.out.below hb6
        clear hb6 x0 x1 x2 x3 y0 y1 y2 y3
        have done:∀ b,needTo kf j (i+1)=b→Hid (needTo kf j (i+1)=b):=fun _ h=>h
        by_cases hx:m'.x=m.x
        ·by_cases hy:m'.y=m.y
         ·by_cases hd:m'.d=m.d
          ·by_cases he:m'.e=m.e
           ·have heq:meqB m' m=true:=decide_eq_true ⟨hx,hy,hd,he⟩
            by_cases hlj:i<j
            ·have HN:=done _ (HBAD.out ⟨hij,HDV.out,.inr hlj⟩)
             have hljI:(i:Int)<(j:Int):=by omega
             clear heq HBAD HKEEP HNOT
             go_wp2
             go_roundw
             case rel=>exact ⟨i+1,by omega,by go_num,by rw [HN.out],HB6.out⟩
             case measure=>simp [intOf];omega
            ·have HN:=done _ (HKEEP.out (fun hh=>by
              rcases hh.2.2 with q | q
              ·rw [heq] at q;cases q
              ·exact hlj q))
             have hljI:¬ (i:Int)<(j:Int):=by omega
             clear heq HBAD HKEEP HNOT
             go_wp2
             go_roundw
             case rel=>exact ⟨i+1,by omega,by go_num,by rw [HN.out],HB6.out⟩
             case measure=>simp [intOf];omega
           ·have HN:=done _ (HBAD.out ⟨hij,HDV.out,.inl (decide_eq_false (fun q=>he q.2.2.2))⟩)
            clear HBAD HKEEP HNOT
            go_wp2
            go_roundw
            case rel=>exact ⟨i+1,by omega,by go_num,by rw [HN.out],HB6.out⟩
            case measure=>simp [intOf];omega
          ·have HN:=done _ (HBAD.out ⟨hij,HDV.out,.inl (decide_eq_false (fun q=>hd q.2.2.1))⟩)
           clear HBAD HKEEP HNOT
           go_wp2
           go_roundw
           case rel=>exact ⟨i+1,by omega,by go_num,by rw [HN.out],HB6.out⟩
           case measure=>simp [intOf];omega
         ·have HN:=done _ (HBAD.out ⟨hij,HDV.out,.inl (decide_eq_false (fun q=>hy q.2.1))⟩)
          clear HBAD HKEEP HNOT
          go_wp2
          go_roundw
          case rel=>exact ⟨i+1,by omega,by go_num,by rw [HN.out],HB6.out⟩
          case measure=>simp [intOf];omega
        ·have HN:=done _ (HBAD.out ⟨hij,HDV.out,.inl (decide_eq_false (fun q=>hx q.1))⟩)
         clear HBAD HKEEP HNOT
         go_wp2
         go_roundw
         case rel=>exact ⟨i+1,by omega,by go_num,by rw [HN.out],HB6.out⟩
         case measure=>simp [intOf];omega
    ·have hin:¬ (i:Int)<(n:Int):=by omega
     have hie:i=n:=by omega
     have hnd:need kf n j=nb:=by rw [← HNB.out,hie];rfl
     have HBr:=Hid.mk' (bel_next HB2.out HB4.out)
     have HAr:=Hid.mk' (HA2.out.below HB4.out)
     have hskip:nb=false→selN (need kf n) (esOf ad cp L) (j+1)=selN (need kf n) (esOf ad cp L) j:=fun hg=>if_neg (by rw [hnd,hg];simp)
     have htake:nb=true→selN (need kf n) (esOf ad cp L) (j+1)=selN (need kf n) (esOf ad cp L) j ++ [esOf ad cp L j]:=fun hg=>if_pos (by rw [hnd,hg])
     have HSK:=Hid.mk' hskip
     have HTK:=Hid.mk' htake
     subst hie
     obtain ⟨wo,hwo⟩:∃ x,x=wr:=⟨_,rfl⟩
     subst hwo
     clear hB4 hskip htake hnd HNB
     cases nb
     ·have HS:=Hid.mk' (HSK.out rfl)
      clear HSK HTK
      go_wp2
      go_roundw
      case rel=>exact ⟨j+1,by omega,by go_num,HBr.out,by rw [HS.out];exact HAr.out⟩
      case measure=>simp [intOf];omega
     ·have HT:=Hid.mk' (HTK.out rfl)
      clear HSK HTK
      obtain ⟨b1',off1',ea,hb1',hc1⟩:=HC1.out j hlt
      cases ea
      have kc:wo.cell? ⟨b1,off1+j,none⟩=some (.slice (ad j) l (cp j)):=by rw [← HL.out];exact hc1 wo HBr.out
      have hrow:=HAr.out.row
      have hjl:=selN_len (need kf i) (esOf ad cp L) j
      obtain ⟨q,hq⟩:∃ q,(selN (need kf i) (esOf ad cp L) j).length=q:=⟨_,rfl⟩
      rw [hq] at hrow hjl
      have bx:=bel_one wo (.cells #[.slice (ad j) l (cp j)] 45)
      have HB7:=Hid.mk' (bel_next HBr.out bx)
      have HA7:=Hid.mk' (HAr.out.below bx)
      have hrow7:=HA7.out.row
      rw [hq] at hrow7
      have hnews:∀ jj u,[Value.slice (ad j) l (cp j)][jj]? = some u→(wo.alloc (.cells #[.slice (ad j) l (cp j)] 45)).cell? ((⟨wo.heap.size,0,none⟩:Addr).add jj)=some u:=World.news_of_block (heap_alloc_new wo _)
      have hone:∀ u∈[Value.slice (ad j) l (cp j)],u.oneCell'=true:=fun u hu=>by
       have:u=.slice (ad j) l (cp j):=by simpa using hu
       subst this;rfl
      have hbase:w.heap.size≤(wo.alloc (.cells #[.slice (ad j) l (cp j)] 45)).heap.size:=HB7.out.size
      have HEL:Hid (ElE (wo.alloc (.cells #[.slice (ad j) l (cp j)] 45)) u5.ownBlock (esOf ad cp L j)):=by
       refine ElE.far (w:=w) (HH.out.rd.el hlt) HB7.out (fun k hk=>?_)
       exact (HA7.out.row.lt k hk).1
      have HRND:Hid (∀ (g0 cap0:Nat) (w8:World),w8.ownsRow w.heap.size 45 1 (.slice (some ⟨g0,0,none⟩) (q+1) cap0) (q+1) ((selN (need kf i) (esOf ad cp L) j).map E.v ++ [.slice (ad j) l (cp j)])→(wo.alloc (.cells #[.slice (ad j) l (cp j)] 45)).grownBy w8 u5.ownBlock→(u5.ownBlock=some g0∨g0=(wo.alloc (.cells #[.slice (ad j) l (cp j)] 45)).heap.size)→RowE w.heap.size w8 (.slice (some ⟨g0,0,none⟩) (q+1) cap0) (selN (need kf i) (esOf ad cp L) (j+1))):=fun g0 cap0 w8 p1 p2 p3=>by
       have:=HA7.out.app (es':=[esOf ad cp L j]) (fun e he=>by rw [List.mem_singleton.1 he];exact HEL.out) (g0:=g0) (cap0:=cap0) p2 (by rw [hq];show w8.ownsRow _ _ _ _ (q+1) (_ ++ [Value.slice (ad j) (L j).length (cp j)]);rw [HL.out];exact p1) p3
       rw [hq] at this
       rw [HT.out]
       exact this
      clear bx hc1 hq hrow
      go_wp2_with (at_builtin;refine wpList_append_lies _ rfl (.tmp 61) (.tmp 66) 24 rfl w.heap.size 45 i0 _ 1 24 Tryz.underlying24 hi0 hz0 hz1 hz2 rfl (by omega) _ q ((selN (need kf i) (esOf ad cp L) j).map E.v) rfl hrow7 ⟨wo.heap.size,0,none⟩ 1 1 [.slice (ad j) l (cp j)] rfl rfl hnews hone (by omega) (by unfold maxLen;omega) (by omega) hbase _ rfl ?_;intro g0 cap0 w8 hown1 hgrow hat hlt1;have HX:=Hid.mk' (HRND.out g0 cap0 w8 hown1 hgrow hat);have HB8:=Hid.mk' (HB7.out.grown hgrow hbase (fun k e=>(HA7.out.row.lt k e).1));clear hown1 hgrow hat hlt1 hnews hone hrow7 hbase)
      go_roundw
      case rel=>exact ⟨j+1,by omega,by go_num,HB8.out,HX.out⟩
      case measure=>simp [intOf];omega
  ·have hjn:¬ (j:Int)<(n:Int):=by omega
   have hje:j=n:=by omega
   subst hje
   clear hB hA
   go_wp2
   go_ret
   exact ⟨_,rfl,HB.out,HA.out⟩
end Go.Proofs.YtdidlcjhodejjaaGreat
namespace Go.Proofs.YtdidlcjhodejjaaGreat
open Go.RowKit Go.Deep Go.Joins
set_option linter.unusedVariables false
set_option linter.unusedSimpArgs false
theorem wp_pushR {o:Oper} {a:Act} {K:Act→World→Prop} {Q:Exit→Act→World→Prop} (s x:Operand) (ho:o.op=.call { callee:=.builtin .append,args:=#[s,x],argTypes:=#[24,24] }) {lo:Nat} {W:World} {tv:Value} {es:List E} (hR:RowE lo W tv es) (hs:a.eval s=tv) {pa:Option Addr} {pc m:Nat} {es':List E} (hm:es'.length=m) (hx:a.eval x=.slice pa m pc) (hrd:RdE W pa pc es') (hel:∀ e∈es',ElE W tv.ownBlock e) (hlo:lo≤W.heap.size) (hn:es.length+m≤100) (h:∀ tv' w',RowE lo w' tv' (es ++ es')→(∀ N w0,Below N w0 W→N≤lo→Below N w0 w')→W.heap.size≤w'.heap.size→K (a.put o.dst tv') w'):Oper.wp Tryz.prog o a W K Q:=by
 obtain ⟨i0,hi0,hz0,hz1,hz2⟩:=info_glP
 by_cases h0:m=0
 ·have hrun:=run_app0g (P:=Tryz.prog) (w:=W) lo 24 o.type 45 i0 1 Tryz.underlying24 hi0 tv es.length (es.map E.v) hR.row pa pc
  have e0:es'=[]:=List.length_eq_zero_iff.1 (by omega)
  subst h0
  unfold Oper.wp
  simp [execOp,ho,resolve,invoke,builtin,hs,hx,hrun,Result.andThen]
  exact h tv W (by rw [e0,List.append_nil];exact hR) (fun N w0 hb _=>hb) (Nat.le_refl _)
 ·obtain ⟨b,off,e1,hb,hc⟩:=hrd.2.2.1.resolve_left (by omega)
  subst e1
  refine wp_append_lies W s x 24 ho lo 45 i0 _ 1 24 Tryz.underlying24 hi0 hz0 hz1 hz2 rfl (by omega) tv es.length (es.map E.v) hs hR.row ⟨b,off,none⟩ m pc (es'.map E.v) hx (by rw [List.length_map];omega) hrd.news (oneE es') (by omega) (by unfold maxLen;omega) (by omega) hlo _ rfl ?_
  intro g cap w' hown hgrow hat hlt
  refine h _ _ ?_ (fun N w0 hb0 hN=>hb0.grown hgrow (by omega) (fun k e=>Nat.le_trans hN (hR.row.lt k e).1)) ((Below.refl 0 W).grown hgrow (Nat.zero_le _) (fun _ _=>Nat.zero_le _)).size
  have:=hR.app (es':=es') hel (g0:=g) (cap0:=cap) hgrow (by rw [hm];exact hown) hat
  rw [hm] at this
  exact this
theorem wpList_pushR {ops:Array Oper} {rest:List Oper} {o:Oper} {a:Act} {Q:Exit→Act→World→Prop} (hgd:o.guard=none) (s x:Operand) (ho:o.op=.call { callee:=.builtin .append,args:=#[s,x],argTypes:=#[24,24] }) {lo:Nat} {W:World} {tv:Value} {es:List E} (hR:RowE lo W tv es) (hs:a.eval s=tv) {pa:Option Addr} {pc m:Nat} {es':List E} (hm:es'.length=m) (hx:a.eval x=.slice pa m pc) (hrd:RdE W pa pc es') (hel:∀ e∈es',ElE W tv.ownBlock e) (hlo:lo≤W.heap.size) (hn:es.length+m≤100) (h:∀ tv' w',RowE lo w' tv' (es ++ es')→(∀ N w0,Below N w0 W→N≤lo→Below N w0 w')→W.heap.size≤w'.heap.size→wpList Tryz.prog ops Q rest (a.put o.dst tv') w'):wpList Tryz.prog ops Q (o :: rest) a W:=
 wpList_plain hgd fun _ hK=>wp_pushR s x ho hR hs hm hx hrd hel hlo hn fun tv' w' h1 h2 h3=>hK _ _ (h tv' w' h1 h2 h3)
theorem step_pushR {ops:Array Oper} {o:Oper} {a:Act} {K:Act→World→Prop} {Q:Exit→Act→World→Prop} {G:Prop} (hgd:o.guard=none) (s x:Operand) (ho:o.op=.call { callee:=.builtin .append,args:=#[s,x],argTypes:=#[24,24] }) {lo:Nat} {W:World} {tv:Value} {es:List E} (hR:RowE lo W tv es) (hs:a.eval s=tv) {pa:Option Addr} {pc m:Nat} {es':List E} (hm:es'.length=m) (hx:a.eval x=.slice pa m pc) (hrd:RdE W pa pc es') (hel:∀ e∈es',ElE W tv.ownBlock e) (hlo:lo≤W.heap.size) (hn:es.length+m≤100) (h:∀ tv' w',RowE lo w' tv' (es ++ es')→(∀ N w0,Below N w0 W→N≤lo→Below N w0 w')→W.heap.size≤w'.heap.size→K (a.put o.dst tv') w') :
  if Region.wanted o (yielded ops a.tmps)=true then Oper.wp Tryz.prog o a W K Q else G:=by
 have hw:Region.wanted o (yielded ops a.tmps)=true:=by simp [Region.wanted,hgd]
 rw [if_pos hw]
 exact wp_pushR s x ho hR hs hm hx hrd hel hlo hn h
theorem RdE.box {W:World} {e:E} (h:RL W e.a e.c e.p):RdE (W.alloc (.cells #[e.v] 45)) (some ⟨W.heap.size,0,none⟩) 1 [e]:=by
 refine ⟨Nat.le_refl _,by show 1≤100;omega,.inr ⟨W.heap.size,0,rfl,by simp,fun i e' he=>?_⟩,fun e' he=>?_⟩
 ·have hi:i<1:=(List.getElem?_eq_some_iff.1 he).1
  have:i=0:=by omega
  subst this
  have:e=e':=by simpa using he
  subst this
  rw [World.cell?_alloc_at _ _ _ _ rfl];rfl
 ·rw [List.mem_singleton.1 he];exact Rd.below h (bel_one _ _)
theorem RowE.weak {lo lo':Nat} {w:World} {tv:Value} {es:List E} (h:RowE lo w tv es) (hl:lo'≤lo):RowE lo' w tv es:=by
 refine ⟨?_,h.el⟩
 obtain ⟨h1,h2⟩:=h.row
 refine ⟨h1,h2.imp id ?_⟩
 rintro ⟨g,cap,cur,e1,e2,r⟩
 exact ⟨g,cap,cur,e1,by omega,r⟩
theorem ins_go {α:Type} {lt:α→α→Bool} {y z:α}:∀ {l:List α},l.any (lt y)=true→insN lt y (l ++ [z])=insN lt y l ++ [z]
 | [],h=>by cases h
 | x :: r,h=>by
  show (if lt y x=true then y :: x :: (r ++ [z]) else x :: insN lt y (r ++ [z]))=(if lt y x=true then y :: x :: r else x :: insN lt y r) ++ [z]
  by_cases e:lt y x=true
  ·rw [if_pos e,if_pos e];rfl
  ·rw [if_neg e,if_neg e,ins_go (l:=r) (by
    rw [List.any_cons] at h
    have e':lt y x=false:=by cases q:lt y x;rfl;exact absurd q e
    rw [e',Bool.false_or] at h
    exact h)]
   rfl
theorem ins_no {α:Type} {lt:α→α→Bool} {y:α}:∀ {l:List α},l.any (lt y)=false→insN lt y l=l ++ [y]
 | [],_=>rfl
 | x :: r,h=>by
  rw [List.any_cons] at h
  obtain ⟨h1,h2⟩:=Bool.or_eq_false_iff.1 h
  show (if lt y x=true then y :: x :: r else x :: insN lt y r)=_
  rw [if_neg (by rw [h1];simp),ins_no h2]
  rfl
theorem ins_hit {α:Type} {lt:α→α→Bool} {y z:α} (hz:lt y z=true):∀ {l:List α},l.any (lt y)=false→insN lt y (l ++ [z])=l ++ [y] ++ [z]
 | [],_=>by
  show (if lt y z=true then [y,z] else z :: insN lt y [])=_
  rw [if_pos hz];rfl
 | x :: r,h=>by
  rw [List.any_cons] at h
  obtain ⟨h1,h2⟩:=Bool.or_eq_false_iff.1 h
  show (if lt y x=true then y :: x :: (r ++ [z]) else x :: insN lt y (r ++ [z]))=_
  rw [if_neg (by rw [h1];simp),ins_hit hz h2]
  rfl
structure InsS {α:Type} (lt:α→α→Bool) (y:α) (l:List α) (dn:Bool) (X:List α):Prop where
 any:l.any (lt y)=dn
 eq:X=if dn=true then insN lt y l else l
theorem InsS.nil {α:Type} (lt:α→α→Bool) (y:α):InsS lt y [] false []:=⟨rfl,rfl⟩
theorem InsS.go {α:Type} {lt:α→α→Bool} {y:α} {l X:List α} (h:InsS lt y l true X) (z:α):InsS lt y (l ++ [z]) true (X ++ [z]):=by
 have e:X=insN lt y l:=h.eq
 refine ⟨by rw [List.any_append,h.any,Bool.true_or],?_⟩
 rw [if_pos rfl,ins_go h.any,e]
theorem InsS.hit {α:Type} {lt:α→α→Bool} {y z:α} {l X:List α} (h:InsS lt y l false X) (hz:lt y z=true):InsS lt y (l ++ [z]) true (X ++ [y] ++ [z]):=by
 have e:X=l:=h.eq
 refine ⟨by rw [List.any_append,h.any,Bool.false_or,List.any_cons,hz];rfl,?_⟩
 rw [if_pos rfl,ins_hit hz h.any,e]
theorem InsS.miss {α:Type} {lt:α→α→Bool} {y z:α} {l X:List α} (h:InsS lt y l false X) (hz:lt y z=false):InsS lt y (l ++ [z]) false (X ++ [z]):=by
 have e:X=l:=h.eq
 refine ⟨by rw [List.any_append,h.any,Bool.false_or,List.any_cons,hz];rfl,?_⟩
 rw [if_neg (by simp),e]
theorem InsS.done {α:Type} {lt:α→α→Bool} {y:α} {l X:List α} (h:InsS lt y l true X):X=insN lt y l:=h.eq
theorem InsS.last {α:Type} {lt:α→α→Bool} {y:α} {l X:List α} (h:InsS lt y l false X):X ++ [y]=insN lt y l:=by
 have e:X=l:=h.eq
 rw [ins_no h.any,e]
theorem takeE_next {es:List E} {k:Nat} (h:k<es.length):es.take (k+1)=es.take k ++ [es.getD k E0]:=by
 rw [List.take_add_one,(getE h).1]
 rfl
theorem srt_next (o:Int) {es:List E} {k:Nat} (h:k<es.length):srtN (ltE o) [] (es.take (k+1))=insN (ltE o) (es.getD k E0) (srtN (ltE o) [] (es.take k)):=by
 rw [takeE_next h,srtN_snoc]
theorem ltE_ord {o:Int} {y z:E} (ho:1≤o∧o≤3) (hy:okL y.p=true∧y.p.length≠0) (hz:okL z.p=true∧z.p.length≠0):ltE o y z=decide (M.ord o (ldL o y.p).m (ldL o z.p).m<0):=by
 show decide (rkW o (ldL o y.p).m<rkW o (ldL o z.p).m)=_
 exact decide_eq_decide.2 (ord_lt ho (ldL_ok hy) (ldL_ok hz)).symm
set_option maxRecDepth 100000 in
set_option maxHeartbeats 16000000 in
theorem l10SortedS (w:World) (o:Int) (a:Option Addr) (c:Nat) (es:List E) (h:RdE w a c es) (ho:1≤o∧o≤3) (n12:es.length≤12) (hok:∀ e∈es,okL e.p=true∧e.p.length≠0) :
  Calls Tryz.prog 40 #[.int .i64 o,.slice a es.length c] w fun r w'=>∃ tv,r=.returned tv∧Below w.heap.size w w'∧RowE w.heap.size w' tv (srtN (ltE o) [] es):=by
 have HH:=Hid.mk' h
 have HOK:=Hid.mk' hok
 obtain ⟨n,hn⟩:∃ n,es.length=n:=⟨_,rfl⟩
 rw [hn]
 have hnl:(n:Int)≤12:=by omega
 have HN:=Hid.mk' hn
 have HC1:Hid (∀ i,i<n→∃ b1 off1,a=some ⟨b1,off1,none⟩∧∀ W,Below w.heap.size w W→W.cell? ⟨b1,off1+i,none⟩=some (es.getD i E0).v):=fun i hi=>by
  obtain ⟨b1,off1,ea,hb1,hc1⟩:=h.2.2.1.resolve_left (by omega)
  exact ⟨b1,off1,ea,fun W hW=>(hW.cell (p:=⟨b1,off1+i,none⟩) hb1).trans (hc1 i _ (getE (by omega)).1)⟩
 have HLD:Hid (∀ (e:E) (k:Int) (m:M),e∈es→(ldL o e.p).c=k→(ldL o e.p).m=m→∀ W,Below w.heap.size w W→Calls Tryz.prog 61 #[.int .i64 o,.slice e.a e.p.length e.c] W fun r w'=>r=.returned (.agg #[.int .i64 k,.int .i64 m.x,.int .i64 m.y,.int .i64 m.d,.int .i64 m.e])∧Below W.heap.size W w'):=fun e k m he hk hm W hW=>leadL_S (Rd.below (h.2.2.2 e he) hW) (hok e he).1 (hok e he).2 hk hm
 have HS0:=Hid.mk' (RowE.start (w:=w) (Nat.le_refl _))
 clear h hok hn n12
 go_enter Tryz.func40,Tryz.ntmps40
 go_wp2
 go_loopw [5,6] (fun tv ii wr=>∃ (j:Nat),j≤n∧ii=.int .i64 (j:Int)∧Below w.heap.size w wr∧RowE w.heap.size wr tv (srtN (ltE o) [] (es.take j))) (fun _ ii _=>n - (intOf ii).toNat)
 case atStart=>exact ⟨0,Nat.zero_le _,rfl,bel_one _ _,HS0.out⟩
 case round=>
  obtain ⟨j,hj,rfl,hB,hA⟩:=hrel
  have HB:=Hid.mk' hB
  by_cases hlt:j<n
  ·have hjn:(j:Int)<(n:Int):=by omega
   obtain ⟨b1,off1,rfl,hc1⟩:=HC1.out j hlt
   have hmem:∀ e∈srtN (ltE o) [] (es.take j),e∈es:=fun e he=>by
    rcases srtN_mem.1 he with q | q
    ·cases q
    ·exact List.mem_of_mem_take q
   have hAl:(srtN (ltE o) [] (es.take j)).length=j:=by rw [srtN_len,List.length_take,HN.out];simp;omega
   have HNX:=Hid.mk' (srt_next o (es:=es) (k:=j) (by rw [HN.out];exact hlt))
   obtain ⟨A,hAe⟩:∃ A,srtN (ltE o) [] (es.take j)=A:=⟨_,rfl⟩
   rw [hAe] at hA hmem hAl
   have HAE:=Hid.mk' hAe
   have hym:es.getD j E0∈es:=(getE (by rw [HN.out];exact hlt)).2
   obtain ⟨y,hy⟩:∃ y,es.getD j E0=y:=⟨_,rfl⟩
   rw [hy] at hym
   have HY:=Hid.mk' hy
   obtain ⟨yl,hyl⟩:∃ yl,y.p.length=yl:=⟨_,rfl⟩
   have HYL:=Hid.mk' hyl
   have HYC:Hid (∀ W,Below w.heap.size w W→W.cell? ⟨b1,off1+j,none⟩=some (.slice y.a yl y.c)):=fun W hW=>by rw [hc1 W hW,hy,← hyl];rfl
   obtain ⟨oa,oc,htv,hrd⟩:=hA.rd (by omega)
   rw [hAl] at htv
   subst htv
   have HRD:=Hid.mk' hrd
   have HMEM:=Hid.mk' hmem
   have HYM:=Hid.mk' hym
   have HAL:=Hid.mk' hAl
   obtain ⟨yk,hyk⟩:∃ k,(ldL o y.p).c=k:=⟨_,rfl⟩
   obtain ⟨ym,hymm⟩:∃ m,(ldL o y.p).m=m:=⟨_,rfl⟩
   have HLY:Hid (∀ W,Below w.heap.size w W→Calls Tryz.prog 61 #[.int .i64 o,.slice y.a yl y.c] W fun r w'=>r=.returned (.agg #[.int .i64 yk,.int .i64 ym.x,.int .i64 ym.y,.int .i64 ym.d,.int .i64 ym.e])∧Below W.heap.size W w'):=fun W hW=>by
    have:=HLD.out y yk ym hym hyk hymm W hW
    rw [hyl] at this;exact this
   have HYE:Hid ((ldL o y.p).m=ym):=hymm
   have hfy:∀ W:World,(Instr.field 42 (Value.agg #[.int .i64 yk,.int .i64 ym.x,.int .i64 ym.y,.int .i64 ym.d,.int .i64 ym.e]) 1).run Tryz.prog W=.ok (Value.agg #[.int .i64 ym.x,.int .i64 ym.y,.int .i64 ym.d,.int .i64 ym.e]) W:=fun W=>by kernel_rfl
   obtain ⟨w1,hw1⟩:∃ x,x=wr:=⟨_,rfl⟩
   subst hw1
   have HX0:=Hid.mk' (RowE.start (w:=w1) (Nat.le_refl _))
   have hlo1:w.heap.size≤w1.heap.size:=hB.size
   clear hB hA hrd hmem hAl hAe hy hyl hyk hymm hc1 hym
   go_wp2
   go_loopw [7,8,9] (fun xv dv ki wr=>∃ (k:Nat) (dn:Bool) (X:List E),k≤j∧X.length≤k+1∧ki=.int .i64 (k:Int)∧dv=.bool dn∧Below w1.heap.size w1 wr∧RowE w1.heap.size wr xv X∧InsS (ltE o) y (A.take k) dn X∧(∀ e∈X,e∈es)) (fun _ _ ki _=>j - (intOf ki).toNat)
   case atStart=>exact ⟨0,false,[],Nat.zero_le _,Nat.zero_le _,rfl,rfl,bel_one _ _,HX0.out,InsS.nil _ _,fun e he=>by cases he⟩
   case round=>
    obtain ⟨k,dn,X,hk,hXl,rfl,rfl,hB2,hX,hI,hXm⟩:=hrel
    have HB2:=Hid.mk' hB2
    have HX:=Hid.mk' hX
    have HI:=Hid.mk' hI
    have HXM:=Hid.mk' hXm
    have hXl50:X.length≤14:=by omega
    have hX1:X.length+1≤100:=by omega
    by_cases hkt:k<j
    ·have hkj:(k:Int)<(j:Int):=by omega
     obtain ⟨b2,off2,ea,hb2,hc2⟩:=HRD.out.2.2.1.resolve_left (by rw [HAL.out];omega)
     cases ea
     obtain ⟨z,hz⟩:∃ z,A.getD k E0=z:=⟨_,rfl⟩
     have hzm:z∈es:=by rw [← hz];exact HMEM.out _ (getE (by rw [HAL.out];exact hkt)).2
     have HTK:Hid (A.take (k+1)=A.take k ++ [z]):=by show _=_;rw [takeE_next (by rw [HAL.out];exact hkt),hz]
     obtain ⟨zl,hzl⟩:∃ zl,z.p.length=zl:=⟨_,rfl⟩
     have HZL:=Hid.mk' hzl
     have HZM:=Hid.mk' hzm
     have HZC:Hid (∀ W,Below w1.heap.size w1 W→W.cell? ⟨b2,off2+k,none⟩=some (.slice z.a zl z.c)):=fun W hW=>by
      rw [hW.cell (p:=⟨b2,off2+k,none⟩) hb2,hc2 k _ (getE (by rw [HAL.out];exact hkt)).1,hz,← hzl];rfl
     obtain ⟨zk,hzk⟩:∃ k,(ldL o z.p).c=k:=⟨_,rfl⟩
     obtain ⟨zm,hzmm⟩:∃ m,(ldL o z.p).m=m:=⟨_,rfl⟩
     have HLZ:Hid (∀ W,Below w.heap.size w W→Calls Tryz.prog 61 #[.int .i64 o,.slice z.a zl z.c] W fun r w'=>r=.returned (.agg #[.int .i64 zk,.int .i64 zm.x,.int .i64 zm.y,.int .i64 zm.d,.int .i64 zm.e])∧Below W.heap.size W w'):=fun W hW=>by
      have:=HLD.out z zk zm hzm hzk hzmm W hW
      rw [hzl] at this;exact this
     have hfz:∀ W:World,(Instr.field 42 (Value.agg #[.int .i64 zk,.int .i64 zm.x,.int .i64 zm.y,.int .i64 zm.d,.int .i64 zm.e]) 1).run Tryz.prog W=.ok (Value.agg #[.int .i64 zm.x,.int .i64 zm.y,.int .i64 zm.d,.int .i64 zm.e]) W:=fun W=>by kernel_rfl
     -- what the end of a round wants: z behind X
     have HPUT:Hid (∀ (W:World) (xv:Value) (Y:List E),Below w1.heap.size w1 W→RowE w1.heap.size W xv Y→(∀ e∈Y,e∈es)→RowE w1.heap.size (W.alloc (.cells #[.slice z.a zl z.c] 45)) xv Y∧RdE (W.alloc (.cells #[.slice z.a zl z.c] 45)) (some ⟨W.heap.size,0,none⟩) 1 [z]∧(∀ e∈[z],ElE (W.alloc (.cells #[.slice z.a zl z.c] 45)) xv.ownBlock e)∧w1.heap.size≤(W.alloc (.cells #[.slice z.a zl z.c] 45)).heap.size∧Below w1.heap.size w1 (W.alloc (.cells #[.slice z.a zl z.c] 45))∧(∀ e∈Y ++ [z],e∈es)):=fun W xv Y hW hR hm=>by
      have hWw:=bel_next HB.out hW
      have hbx:=bel_one W (.cells #[.slice z.a zl z.c] 45)
      refine ⟨hR.below hbx,?_,fun e he=>?_,(bel_next hW hbx).size,bel_next hW hbx,fun e he=>?_⟩
      ·have:=RdE.box (W:=W) (e:=z) (Rd.below (HH.out.2.2.2 z HZM.out) hWw)
       rw [show z.v=.slice z.a zl z.c by rw [← HZL.out];rfl] at this
       exact this
      ·rw [List.mem_singleton.1 he]
       refine ElE.far (w:=w) (HH.out.2.2.2 z HZM.out) (bel_next hWw hbx) (fun q hq=>?_)
       have:=((hR.below hbx).row.lt q hq).1
       have:=HB.out.size
       omega
      ·rcases List.mem_append.1 he with q | q
       ·exact hm e q
       ·rw [List.mem_singleton.1 q];exact HZM.out
     have HPUTY:Hid (∀ (W:World) (xv:Value) (Y:List E),Below w1.heap.size w1 W→RowE w1.heap.size W xv Y→(∀ e∈Y,e∈es)→RowE w1.heap.size (W.alloc (.cells #[.slice y.a yl y.c] 45)) xv Y∧RdE (W.alloc (.cells #[.slice y.a yl y.c] 45)) (some ⟨W.heap.size,0,none⟩) 1 [y]∧(∀ e∈[y],ElE (W.alloc (.cells #[.slice y.a yl y.c] 45)) xv.ownBlock e)∧w1.heap.size≤(W.alloc (.cells #[.slice y.a yl y.c] 45)).heap.size∧Below w1.heap.size w1 (W.alloc (.cells #[.slice y.a yl y.c] 45))∧(∀ e∈Y ++ [y],e∈es)):=fun W xv Y hW hR hm=>by
      have hWw:=bel_next HB.out hW
      have hbx:=bel_one W (.cells #[.slice y.a yl y.c] 45)
      refine ⟨hR.below hbx,?_,fun e he=>?_,(bel_next hW hbx).size,bel_next hW hbx,fun e he=>?_⟩
      ·have:=RdE.box (W:=W) (e:=y) (Rd.below (HH.out.2.2.2 y HYM.out) hWw)
       rw [show y.v=.slice y.a yl y.c by rw [← HYL.out];rfl] at this
       exact this
      ·rw [List.mem_singleton.1 he]
       refine ElE.far (w:=w) (HH.out.2.2.2 y HYM.out) (bel_next hWw hbx) (fun q hq=>?_)
       have:=((hR.below hbx).row.lt q hq).1
       have:=HB.out.size
       omega
      ·rcases List.mem_append.1 he with q | q
       ·exact hm e q
       ·rw [List.mem_singleton.1 q];exact HYM.out
     obtain ⟨lv,hlv⟩:∃ lv,ltE o y z=lv:=⟨_,rfl⟩
     have HOR:Hid (decide (M.ord o ym zm<0)=lv):=by
      show _=lv
      rw [← hlv,ltE_ord ho (HOK.out y HYM.out) (HOK.out z hzm),HYE.out,hzmm]
     have HLV:=Hid.mk' hlv
     have hoy:ym.ok=true:=by rw [← HYE.out];exact ldL_ok (HOK.out y HYM.out)
     have hoz:zm.ok=true:=by rw [← hzmm];exact ldL_ok (HOK.out z hzm)
     have HOC:Hid (∀ W:World,Calls Tryz.prog 82 #[.int .i64 o,.agg #[.int .i64 ym.x,.int .i64 ym.y,.int .i64 ym.d,.int .i64 ym.e],.agg #[.int .i64 zm.x,.int .i64 zm.y,.int .i64 zm.d,.int .i64 zm.e]] W fun r w'=>r=.returned (.int .i64 (M.ord o ym zm))∧Below W.heap.size W w'):=fun W=>ordS o ym.x ym.y ym.d ym.e zm.x zm.y zm.d zm.e W (fun _=>⟨hoy,hoz⟩)
     have kz:=HZC.out wr hB2
     clear hB2 hX hI hXm hz hzl hzk hzmm hc2 hlv hoy hoz hzm
     cases dn
     ·-- not done yet: both are held against each other
      have ky:=HYC.out wr (bel_next HB.out HB2.out)
      have hly:=HLY.out wr.drew (bel_next HB.out HB2.out).drew
      have hlz:∀ W,Below wr.drew.heap.size wr.drew W→Calls Tryz.prog 61 #[.int .i64 o,.slice z.a zl z.c] W fun r w'=>r=.returned (.agg #[.int .i64 zk,.int .i64 zm.x,.int .i64 zm.y,.int .i64 zm.d,.int .i64 zm.e])∧Below W.heap.size W w':=fun W hW=>HLZ.out W (bel_next (bel_next HB.out HB2.out).drew hW)
      have HLYH:=Hid.mk' hly
      have HLZH:=Hid.mk' hlz
      have hS:wr.drew.cell? ⟨b1,off1+j,none⟩=some (.slice y.a yl y.c)∧wr.drew.cell? ⟨b2,off2+k,none⟩=some (.slice z.a zl z.c):=⟨ky,kz⟩
      have HKEEP:Hid (∀ W,Below wr.drew.heap.size wr.drew W→W.cell? ⟨b1,off1+j,none⟩=some (.slice y.a yl y.c)∧W.cell? ⟨b2,off2+k,none⟩=some (.slice z.a zl z.c)):=fun W hW=>⟨HYC.out W (bel_next (bel_next HB.out HB2.out).drew hW),HZC.out W (bel_next HB2.out.drew hW)⟩
      clear hly hlz
      go_wp2_with fail
      go_region_held3 (fun u=>u.cell? ⟨b1,off1+j,none⟩=some (.slice y.a yl y.c)∧u.cell? ⟨b2,off2+k,none⟩=some (.slice z.a zl z.c)) (first | with_reducible exact hS | with_reducible exact HKEEP.out _ bb1 | with_reducible exact HKEEP.out _ (bel_next bb1 bb2) | with_reducible exact HKEEP.out _ (bel_next (bel_next bb1 bb2) bb3)) (first | (go_at_call 61;(with_reducible refine HLYH.out.mono ?_);rintro e v1 ⟨rfl,bb1⟩) | (go_at_call 61;(with_reducible refine (HLZH.out v1 bb1).mono ?_);rintro e v2 ⟨rfl,bb2⟩) | (go_at_call 82;(with_reducible refine (HOC.out _).mono ?_);rintro e v3 ⟨rfl,bb3⟩))
      have HB3:=Hid.mk' (bel_next (bel_next (bel_next HB2.out.drew bb1) bb2) bb3)
      have HX3:=Hid.mk' (((HX.out.below (Below.refl _ wr).drew).below bb1).below (bb2.trans (bb3.mono bb2.size)))
      clear bb1 bb2 bb3 hS HKEEP HLYH HLZH ky kz
      cases lv
      ·have hor:¬ (M.ord o ym zm<0):=of_decide_eq_false HOR.out
       have HI4:=Hid.mk' (HI.out.miss HLV.out)
       obtain ⟨p1,p2,p3,p4,p5,p6⟩:=HPUT.out v3 u7 X HB3.out HX3.out HXM.out
       have kz3:=HZC.out v3 HB3.out
       have P1:=Hid.mk' p1
       have P2:=Hid.mk' p2
       have P3:=Hid.mk' p3
       have P5:=Hid.mk' p5
       have P6:=Hid.mk' p6
       clear p1 p2 p3 p5 p6
       go_wp2_with (at_builtin;refine wpList_pushR rfl (.tmp 52) (.tmp 57) rfl P1.out rfl rfl rfl P2.out P3.out p4 hX1 ?_;intro tv' w9 q1 q2 q3;have Q1:=Hid.mk' q1;have Q2:=Hid.mk' (q2 _ _ P5.out (Nat.le_refl _));clear q1 q2 q3)
       go_roundw
       case rel=>exact ⟨k+1,false,X ++ [z],by omega,by rw [List.length_append];simp;omega,by go_num,rfl,Q2.out,Q1.out,by rw [HTK.out];exact HI4.out,P6.out⟩
       case measure=>simp [intOf];omega
      ·have hor:M.ord o ym zm<0:=of_decide_eq_true HOR.out
       have HI4:=Hid.mk' (HI.out.hit HLV.out)
       obtain ⟨p1,p2,p3,p4,p5,p6⟩:=HPUTY.out v3 u7 X HB3.out HX3.out HXM.out
       have ky3:=HYC.out v3 (bel_next HB.out HB3.out)
       have P1:=Hid.mk' p1
       have P2:=Hid.mk' p2
       have P3:=Hid.mk' p3
       have P5:=Hid.mk' p5
       have P6:=Hid.mk' p6
       clear p1 p2 p3 p5 p6
       have HX2:Hid ((X ++ [y]).length+1≤100):=by
        have e:X=A.take k:=HI.out.eq
        have e2:X.length≤k:=by rw [e,List.length_take];omega
        show (X ++ [y]).length+1≤100
        simp only [List.length_append,List.length_cons,List.length_nil]
        omega
       go_wp2_with (first | (at_builtin;refine wpList_pushR rfl (.tmp 45) (.tmp 50) rfl P1.out rfl rfl rfl P2.out P3.out p4 hX1 ?_;intro tv' w9 q1 q2 q3;have Q1:=Hid.mk' q1;have Q2:=Hid.mk' (q2 _ _ P5.out (Nat.le_refl _));have kz9:=HZC.out w9 Q2.out;obtain ⟨r1,r2,r3,r4,r5,r6⟩:=HPUT.out w9 tv' (X ++ [y]) Q2.out Q1.out P6.out;have R1:=Hid.mk' r1;have R2:=Hid.mk' r2;have R3:=Hid.mk' r3;have R5:=Hid.mk' r5;have R6:=Hid.mk' r6;have R7:=HX2.out;clear q1 q2 q3 r1 r2 r3 r5 r6) | (at_builtin;refine wpList_pushR rfl (.tmp 52) (.tmp 57) rfl R1.out rfl rfl rfl R2.out R3.out r4 R7 ?_;intro tv'' w10 q1 q2 q3;have Q3:=Hid.mk' q1;have Q4:=Hid.mk' (q2 _ _ R5.out (Nat.le_refl _));clear q1 q2 q3))
       go_roundw
       case rel=>exact ⟨k+1,true,X ++ [y] ++ [z],by omega,by have e:X=A.take k:=HI.out.eq;have e2:X.length≤k:=(by rw [e,List.length_take];omega);rw [List.length_append,List.length_append];simp;omega,by go_num,rfl,Q4.out,Q3.out,by rw [HTK.out];exact HI4.out,R6.out⟩
       case measure=>simp [intOf];omega
     ·have HI4:=Hid.mk' (HI.out.go z)
      clear kz
      have ne:=Ext.there wr
      go_wp2_with fail
      refine wp_region_ext (by kernel_rfl) (by kernel_rfl) ?_
      repeat (go_big_quiet_step (fail))
      refine wpQuiet_nil ?_
      rintro _ ⟨v,rfl⟩
      have hv:Below wr.heap.size wr v.1:=v.2
      generalize v.1=V at hv ⊢
      clear v ne
      obtain ⟨p1,p2,p3,p4,p5,p6⟩:=HPUT.out V u7 X (bel_next HB2.out hv) (HX.out.below hv) HXM.out
      have kzd:=HZC.out V (bel_next HB2.out hv)
      have P1:=Hid.mk' p1
      have P2:=Hid.mk' p2
      have P3:=Hid.mk' p3
      have P5:=Hid.mk' p5
      have P6:=Hid.mk' p6
      clear p1 p2 p3 p5 p6 hv
      go_wp2_with (at_builtin;refine wpList_pushR rfl (.tmp 52) (.tmp 57) rfl P1.out rfl rfl rfl P2.out P3.out p4 hX1 ?_;intro tv' w9 q1 q2 q3;have Q1:=Hid.mk' q1;have Q2:=Hid.mk' (q2 _ _ P5.out (Nat.le_refl _));clear q1 q2 q3)
      go_roundw
      case rel=>exact ⟨k+1,true,X ++ [z],by omega,by rw [List.length_append];simp;omega,by go_num,rfl,Q2.out,Q1.out,by rw [HTK.out];exact HI4.out,P6.out⟩
      case measure=>simp [intOf];omega
    ·have hkj:¬ (k:Int)<(j:Int):=by omega
     have hke:k=j:=by omega
     have HIA:Hid (InsS (ltE o) y A dn X):=by
      have:=HI.out
      rw [hke,List.take_of_length_le (by rw [HAL.out];omega)] at this
      exact this
     have HFIN:Hid (∀ (W:World) (xv:Value) (Y:List E),Y=insN (ltE o) y A→Below w1.heap.size w1 W→RowE w1.heap.size W xv Y→Below w.heap.size w W∧RowE w.heap.size W xv (srtN (ltE o) [] (es.take (j+1)))):=fun W xv Y e hW hR=>by
      refine ⟨bel_next HB.out hW,?_⟩
      rw [HNX.out,HAE.out,HY.out,← e]
      exact hR.weak HB.out.size
     subst hke
     obtain ⟨wo,hwo⟩:∃ x,x=wr:=⟨_,rfl⟩
     subst hwo
     clear hB2 hX hI hXm
     cases dn
     ·have ky:=HYC.out wo (bel_next HB.out HB2.out)
      have hbx:=bel_one wo (.cells #[.slice y.a yl y.c] 45)
      have P1:=Hid.mk' (HX.out.below hbx)
      have P2:Hid (RdE (wo.alloc (.cells #[.slice y.a yl y.c] 45)) (some ⟨wo.heap.size,0,none⟩) 1 [y]):=by
       have:=RdE.box (W:=wo) (e:=y) (Rd.below (HH.out.2.2.2 y HYM.out) (bel_next HB.out HB2.out))
       rw [show y.v=.slice y.a yl y.c by rw [← HYL.out];rfl] at this
       exact this
      have P3:Hid (∀ e∈[y],ElE (wo.alloc (.cells #[.slice y.a yl y.c] 45)) u7.ownBlock e):=fun e he=>by
       rw [List.mem_singleton.1 he]
       refine ElE.far (w:=w) (HH.out.2.2.2 y HYM.out) (bel_next (bel_next HB.out HB2.out) hbx) (fun q hq=>?_)
       have:=(P1.out.row.lt q hq).1
       omega
      have P5:=Hid.mk' (bel_next HB2.out hbx)
      have p4:w1.heap.size≤(wo.alloc (.cells #[.slice y.a yl y.c] 45)).heap.size:=(bel_next HB2.out hbx).size
      have HL:=Hid.mk' HIA.out.last
      clear hbx
      go_wp2_with (at_builtin;refine wpList_pushR rfl (.tmp 61) (.tmp 66) rfl P1.out rfl rfl rfl P2.out P3.out p4 hX1 ?_;intro tv' w9 q1 q2 q3;have Q1:=Hid.mk' (HFIN.out w9 tv' _ HL.out (q2 _ _ P5.out (Nat.le_refl _)) q1);clear q1 q2 q3)
      go_roundw
      case rel=>exact ⟨k+1,by omega,by go_num,Q1.out.1,Q1.out.2⟩
      case measure=>simp [intOf];omega
     ·have Q1:=Hid.mk' (HFIN.out wo u7 X HIA.out.done HB2.out HX.out)
      go_wp2
      go_roundw
      case rel=>exact ⟨k+1,by omega,by go_num,Q1.out.1,Q1.out.2⟩
      case measure=>simp [intOf];omega
  ·have hjn:¬ (j:Int)<(n:Int):=by omega
   have hje:j=n:=by omega
   have HF:Hid (RowE w.heap.size wr u5 (srtN (ltE o) [] es)):=by
    have:=hA
    rw [hje,List.take_of_length_le (by rw [HN.out];omega)] at this
    exact this
   subst hje
   clear hB hA
   go_wp2
   go_ret
   exact ⟨_,rfl,HB.out,HF.out⟩
end Go.Proofs.YtdidlcjhodejjaaGreat
namespace Go.Proofs.YtdidlcjhodejjaaGreat
open Go.RowKit Go.Deep Go.Joins
set_option linter.unusedVariables false
set_option linter.unusedSimpArgs false
def LeastS (w:World) (R:Option (List (List T))) (r:Ending) (w':World):Prop:=Below w.heap.size w w'∧((∃ l qa qc ad cp,R=some l∧r=.returned (.tuple #[.slice qa l.length qc,.bool true])∧RdS w' qa l.length qc ad (lN (Lof l)) cp (fN (Lof l)))∨(R=none∧∃ qa qc,r=.returned (.tuple #[.slice qa 0 qc,.bool false])))
set_option maxRecDepth 100000 in
set_option maxHeartbeats 4000000 in
theorem l10MonicS (w:World) (o:Int) (a:Option Addr) (c:Nat) (R:List T) (h:RL w a c R) (hR:okL R=true) (h0:R.length≠0) :
  Calls Tryz.prog 43 #[.int .i64 o,.slice a R.length c] w fun r w'=>∃ a' c',r=.returned (.slice a' (monL o R).length c')∧Below w.heap.size w w'∧Out w.heap.size w' a' c' (monL o R):=by
 obtain ⟨m1,m2,m3⟩:=monL_ok (o:=o) hR h0
 have hg:=ldL_good (o:=o) (okL_falls hR).2 h0
 have f1:=fInv_pos hg.2.1 hg.2.2
 have f2:=(fInv_bd (ldL o R).c).2
 have hcf:=(okL_falls hR).2.2
 obtain ⟨t,ht⟩:∃ t,ldL o R=t:=⟨_,rfl⟩
 rw [ht] at m3 f1 f2 hg
 obtain ⟨k,hk⟩:∃ k,fInv t.c=k:=⟨_,rfl⟩
 rw [hk] at m3 f1 f2
 obtain ⟨n,hn⟩:∃ n,R.length=n:=⟨_,rfl⟩
 obtain ⟨Y,hY⟩:∃ Y,monL o R=Y:=⟨_,rfl⟩
 rw [hY] at m1 m2 m3 ⊢
 rw [hn] at m2
 have n400:n≤400:=by rw [← hn];exact (okL_falls hR).1
 have hnI:(n:Int)≤400:=by omega
 have HLE:=Hid.mk' (leadL_S (o:=o) h hR h0 (congrArg T.c ht) (congrArg T.m ht))
 have hinv:=invS t.c
 rw [hk] at hinv
 have HIV:=Hid.mk' hinv
 have HSC:Hid (∀ W,Below w.heap.size w W→Calls Tryz.prog 88 #[.int .i64 k,.slice a n c] W fun r w'=>∃ a' c',r=.returned (.slice a' Y.length c')∧Below W.heap.size W w'∧Out W.heap.size w' a' c' Y):=fun W hW=>by
  rw [← hn]
  refine (l3ScaleS W k a R.length c (lf R) (Rd.below h hW) (by omega) f2 (by omega) (fun i hi=>by have:=(hcf _ (lf_mem hi));omega)).mono ?_
  rintro r w' ⟨v,rfl,hb,hown⟩
  rw [if_neg (show ¬ k=0 by omega)] at hown
  have e:scT k (lf R) R.length=Y:=m3.symm
  rw [e,show R.length=Y.length by omega] at hown
  obtain ⟨a',c',rfl,hO⟩:=out_of_owns hown (by omega)
  exact ⟨a',c',rfl,hb,hO⟩
 rw [hn] at HLE ⊢
 clear h hR h0 m1 m2 m3 f1 f2 hg ht hk hn hY hinv hcf
 have hfield:∀ W:World,(Instr.field 42 (Value.agg #[.int .i64 t.c,.int .i64 t.m.x,.int .i64 t.m.y,.int .i64 t.m.d,.int .i64 t.m.e]) 0).run Tryz.prog W=.ok (.int .i64 t.c) W:=fun W=>by kernel_rfl
 go_enter Tryz.func43,Tryz.ntmps43
 go_wp2_with fail
 refine HLE.out.mono ?_
 rintro r w1 ⟨rfl,hb1⟩
 have HB1:=Hid.mk' hb1
 clear hb1
 go_wp2_with fail
 refine (HIV.out _).mono ?_
 rintro r w2 ⟨rfl,hw2⟩
 obtain rfl:=hw2.symm
 clear hw2
 go_wp2_with fail
 refine (HSC.out _ HB1.out).mono ?_
 rintro r w3 ⟨a',c',rfl,hb3,hO⟩
 have HB3:=Hid.mk' (bel_next HB1.out hb3)
 have HO:Hid (Out w.heap.size w3 a' c' Y):=⟨hO.1,hO.2.1,hO.2.2.imp id (fun ⟨g,off,e,hg⟩=>⟨g,off,e,by have:=HB1.out.size;omega⟩)⟩
 clear hb3 hO
 go_wp2
 go_ret
 exact ⟨a',c',rfl,HB3.out,HO.out⟩
set_option maxRecDepth 100000 in
set_option maxHeartbeats 16000000 in
theorem grbLeastS (w:World) (o:Int) (a:Option Addr) (n cap:Nat) (ad:Nat→Option Addr) (cp:Nat→Nat) (L:Nat→List T) (h:RdS w a n cap ad (lN L) cp (fN L)) :
  Calls Tryz.prog 10 #[.int .i64 o,.slice a n cap] w (LeastS w (grbLeast o n L)):=by
 have HH:=Hid.mk' h
 have q1:(n:Int)≤140737488351232:=by have:=h.2.1;omega
 clear h
 by_cases ho:1≤o∧o≤3
 rotate_left
 ·have e:grbLeast o n L=none:=if_neg (fun q=>ho q.1)
  rw [e]
  go_enter Tryz.func10,Tryz.ntmps10
  go_wp2_with (go_at_call 39;refine (inS_out _ _ _ _ (by omega)).mono ?_;rintro r w' ⟨rfl,hw'⟩;obtain rfl:=hw'.symm;clear hw')
  refine bodyPost_ret (results_tmp2 rfl _ _ _) rfl ?_
  exact ⟨by first | exact bel_one _ _ | exact Below.refl _ _,.inr ⟨rfl,_,_,rfl⟩⟩
 obtain ⟨o1,o2⟩:=ho
 cases hl:lstOk n (lN L) (fN L)
 ·have e:grbLeast o n L=none:=if_neg (fun q=>by rw [hl] at q;exact absurd q.2 (by simp))
  rw [e]
  go_enter Tryz.func10,Tryz.ntmps10
  go_wp2_with (go_at_call 39;refine (inS_in _ _ _ _ (by omega) (by omega)).mono ?_;rintro r w' ⟨rfl,hw'⟩;obtain rfl:=hw'.symm;clear hw')
  refine (lstOkS _ _ _ _ _ _ _ _ HH.out).mono ?_
  rw [hl]
  rintro r w1 ⟨rfl,hb1⟩
  have HB1:=Hid.mk' (bel_next hb1 (bel_one w1 (.cells #[] 45)))
  clear hb1
  go_wp2
  refine bodyPost_ret (results_tmp2 rfl _ _ _) rfl ?_
  exact ⟨HB1.out,.inr ⟨rfl,_,_,rfl⟩⟩
 have n12:=(lstOk_all hl).1
 have hnl:(n:Int)≤12:=by omega
 have hR0:grbLeast o n L=lstRun o (leastL o n L).length 0 (leastL o n L):=if_pos ⟨⟨o1,o2⟩,hl⟩
 obtain ⟨R0,hR0e⟩:∃ R0,grbLeast o n L=R0:=⟨_,rfl⟩
 rw [hR0e] at hR0 ⊢
 obtain ⟨hlk,hl12⟩:=leastL_ok (o:=o) hl
 have HLK:=Hid.mk' hlk
 have hsrc:SrcL w o a n cap ad cp L:=⟨HH.out,⟨o1,o2⟩,fun i hi=>⟨((lstOk_all hl).2 i hi).2,((lstOk_all hl).2 i hi).1⟩⟩
 have HSRC:=Hid.mk' hsrc
 obtain ⟨es0,hes0⟩:∃ es0,selN (need (fun i=>(ldL o (L i)).m) n) (esOf ad cp L) n=es0:=⟨_,rfl⟩
 have h0p:es0.map E.p=selN (need (fun i=>(ldL o (L i)).m) n) L n:=by rw [← hes0,selN_map];rfl
 obtain ⟨es1,hes1⟩:∃ es1,srtN (ltE o) [] es0=es1:=⟨_,rfl⟩
 have h1p:es1.map E.p=leastL o n L:=by
  rw [← hes1]
  show (srtN (fun a b=>ltO o a.p b.p) [] es0).map E.p=_
  rw [srtN_map E.p (ltO o),h0p];rfl
 have h0l:es0.length≤12:=by rw [← hes0];have:=selN_len (need (fun i=>(ldL o (L i)).m) n) (esOf ad cp L) n;omega
 have h1l:es1.length≤12:=by rw [← hes1,srtN_len];simp;omega
 have h0ok:∀ e∈es0,okL e.p=true∧e.p.length≠0:=fun e he=>by
  have:e.p∈selN (need (fun i=>(ldL o (L i)).m) n) L n:=by rw [← h0p];exact List.mem_map_of_mem he
  exact lst_okA hl e.p this
 have hN1:(leastL o n L).length=es1.length:=by rw [← h1p,List.length_map]
 rw [hN1] at hR0
 obtain ⟨N,hN⟩:∃ N,es1.length=N:=⟨_,rfl⟩
 rw [hN] at hR0 h1l
 have HR0:Hid (lstRun o (N - 0) 0 (leastL o n L)=R0):=hR0.symm
 have HES0:=Hid.mk' hes0
 have HES1:=Hid.mk' hes1
 have H1P:=Hid.mk' h1p
 have HOK0:=Hid.mk' h0ok
 have HN:=Hid.mk' hN
 have hNI:(N:Int)≤12:=by omega
 clear hR0 hR0e hlk hl12 hsrc hes0 hes1 h0p h1p h0ok hN1 hN
 go_enter Tryz.func10,Tryz.ntmps10
 go_wp2_with (go_at_call 39;refine (inS_in _ _ _ _ (by omega) (by omega)).mono ?_;rintro r w' ⟨rfl,hw'⟩;obtain rfl:=hw'.symm;clear hw')
 refine (lstOkS _ _ _ _ _ _ _ _ HH.out).mono ?_
 rw [hl]
 rintro r w1 ⟨rfl,hb1⟩
 have HB1:=Hid.mk' hb1
 clear hb1
 go_wp2_with fail
 refine (l10LeastS w1 o a n cap ad cp L (HSRC.out.below HB1.out) n12).mono ?_
 rintro r w2 ⟨tv2,rfl,hb2,hR2⟩
 rw [HES0.out] at hR2
 obtain ⟨a2,c2,rfl,hrd2⟩:=hR2.rd (by omega)
 have HB2:=Hid.mk' (bel_next HB1.out hb2)
 have HRD2:=Hid.mk' hrd2
 clear hb2 hR2 hrd2
 go_wp2_with fail
 refine (l10SortedS w2 o a2 c2 es0 HRD2.out ⟨o1,o2⟩ h0l HOK0.out).mono ?_
 rintro r w3 ⟨tv3,rfl,hb3,hR3⟩
 rw [HES1.out] at hR3
 have HB3:=Hid.mk' (bel_next HB2.out hb3)
 have HR3:=Hid.mk' (hR3.weak (lo':=w.heap.size) HB2.out.size)
 clear hb3 hR3
 go_wp2
 go_loopw [1,6] (fun tv ii wr=>∃ (i:Nat) (es:List E) (l:List (List T)),i≤N∧ii=.int .i64 (i:Int)∧Below w.heap.size w wr∧RowE w.heap.size wr tv es∧Hid (es.map E.p=l)∧Hid (okA l)∧Hid (es.length=N)∧Hid (lstRun o (N - i) i l=R0)) (fun _ ii _=>N - (intOf ii).toNat)
 case atStart=>exact ⟨0,es1,leastL o n L,Nat.zero_le _,rfl,HB3.out,HR3.out,H1P,HLK,HN,HR0⟩
 case round=>
  obtain ⟨i,es,l,hi,rfl,hB,hA,HP,HO,HLN,HR⟩:=hrel
  have HB:=Hid.mk' hB
  have HA:=Hid.mk' hA
  obtain ⟨ga,gc,htv,hrd⟩:=hA.rd (by rw [HLN.out];omega)
  rw [HLN.out] at htv
  subst htv
  have HRD:=Hid.mk' hrd
  clear hB hA
  by_cases hit:i<N
  ·have hiI:(i:Int)<(N:Int):=by omega
   obtain ⟨b,off,rfl,hb,hc⟩:=hrd.2.2.1.resolve_left (by rw [HLN.out];omega)
   have hNc:N≤gc:=by have:=hrd.1;rw [HLN.out] at this;exact this
   have hNcI:(N:Int)≤(gc:Int):=by omega
   obtain ⟨x,hx⟩:∃ x,es.getD i E0=x:=⟨_,rfl⟩
   obtain ⟨xl,hxl⟩:∃ xl,x.p.length=xl:=⟨_,rfl⟩
   have hxm:x∈es:=by rw [← hx];exact (getE (by rw [HLN.out];exact hit)).2
   have HXC:Hid (∀ W,Below wr.heap.size wr W→W.cell? ⟨b,off+i,none⟩=some (.slice x.a xl x.c)):=fun W hW=>by
    rw [hW.cell (p:=⟨b,off+i,none⟩) hb,hc i _ (getE (by rw [HLN.out];exact hit)).1,hx,← hxl];rfl
   have hi1:(i:Int)+1≤(N:Int):=by omega
   have hic:(i:Int)≤(gc:Int):=by omega
   have hwi:IntKind.i64.wrap ((i:Int)+1)=(i:Int)+1:=by rw [IntKind.wrap_i64];omega
   have ei:((i:Int)+1).toNat=i+1:=by omega
   have hi0':¬ ((i:Int)+1<0):=by omega
   have hi2:i+1≤N:=by omega
   have ht1:(es.take i).length=i:=by rw [List.length_take,HLN.out];omega
   have ht2:(es.drop (i+1)).length=N - (i+1):=by rw [List.length_drop,HLN.out]
   have HT1:=Hid.mk' ht1
   have HT2:=Hid.mk' ht2
   have hlx:Lof l i=x.p:=by rw [← HP.out,lof_map,hx]
   have hot:(othL es i).map E.p=othL l i:=by rw [othL_map,HP.out]
   have hol:(othL es i).length=N - 1:=by rw [othL_len (by rw [HLN.out];exact hit),HLN.out]
   have hln:l.length=N:=by rw [← HP.out,List.length_map,HLN.out]
   have hoo:okA (othL l i):=othL_ok HO.out
   have hox:=HO.out _ (lof_mem (l:=l) (i:=i) (by omega))
   obtain ⟨S,hS⟩:∃ S,redAll o x.p (N - 1) (lN (Lof (othL l i))) (fN (Lof (othL l i)))=S:=⟨_,rfl⟩
   have hLS:lftL o (Lof l i) (othL l i)=lftR o S:=by
    rw [lftL_R,hlx,← hS,← hot,List.length_map,hol]
   have hlst:lstOk (N - 1) (lN (Lof (othL l i))) (fN (Lof (othL l i)))=true:=by
    have:=okA_lst hoo (by rw [othL_len (by omega)];omega)
    rwa [show (othL l i).length=N - 1 by rw [othL_len (by omega),hln]] at this
   have hdv:dvRun o (N - 1) (lN (Lof (othL l i))) (fN (Lof (othL l i))) 300 (dvOf x.p)=S:=by
    rw [← hS]
    rw [hlx] at hox
    exact (if_pos ⟨⟨o1,o2⟩,hox.1,hlst⟩).symm
   have hSr:∀ D,S=some D→okL D.r=true:=fun D e=>(redAll_rest (hS.trans e)).1
   have HSR:=Hid.mk' hSr
   have HLS:=Hid.mk' hLS
   have HAL:Hid (∀ (W:World) (oa:Option Addr) (oc:Nat),Below wr.heap.size wr W→RdE W oa oc (othL es i)→Calls Tryz.prog 42 #[.int .i64 o,.slice x.a xl x.c,.slice oa (N - 1) oc] W fun r w'=>AllSf W (N - 1) S r w'):=fun W oa oc hW hR=>by
    have h3:=hR.rds
    rw [hot,hol] at h3
    rw [hlx] at hox
    have:=l7AllSf W o x.a x.c x.p oa (N - 1) oc _ _ _ _ (Rd.below (HRD.out.2.2.2 x hxm) hW) h3 o1 o2 hox.1 hlst
    rw [hdv,hxl] at this
    exact this
   have HEL:Hid (∀ (W:World) (tv:Value),Below wr.heap.size wr W→(∀ k,tv.ownBlock=some k→wr.heap.size≤k)→∀ e∈es,ElE W tv.ownBlock e):=fun W tv hW hk e he=>ElE.far (w:=wr) (HRD.out.2.2.2 e he) hW hk
   have HEL1:Hid (∀ (W:World) (tv:Value),Below wr.heap.size wr W→(∀ k,tv.ownBlock=some k→wr.heap.size≤k)→∀ e∈es.take i,ElE W tv.ownBlock e):=fun W tv hW hk e he=>HEL.out W tv hW hk e (List.mem_of_mem_take he)
   have HEL2:Hid (∀ (W:World) (tv:Value),Below wr.heap.size wr W→(∀ k,tv.ownBlock=some k→wr.heap.size≤k)→∀ e∈es.drop (i+1),ElE W tv.ownBlock e):=fun W tv hW hk e he=>HEL.out W tv hW hk e (List.mem_of_mem_drop he)
   have HTK:Hid (∀ W,Below wr.heap.size wr W→RdE W (some ⟨b,off,none⟩) gc (es.take i)):=fun W hW=>(HRD.out.below hW).takeE (by rw [HLN.out];omega)
   have HPUTL:Hid (∀ (a':Option Addr) (c':Nat) (Y:List T),(es.take i ++ [(⟨a',c',Y⟩:E)] ++ es.drop (i+1)).map E.p=putL l i Y∧(es.take i ++ [(⟨a',c',Y⟩:E)] ++ es.drop (i+1)).length=N):=fun a' c' Y=>by
    have e:es.take i ++ [(⟨a',c',Y⟩:E)] ++ es.drop (i+1)=putL es i ⟨a',c',Y⟩:=by unfold putL;rw [List.append_assoc];rfl
    rw [e]
    exact ⟨by rw [putL_map,HP.out],by rw [putL_len (by rw [HLN.out];exact hit),HLN.out]⟩
   clear hrd hc ht1 ht2 hlx hot hol hln hoo hox hS hLS hlst hdv hSr hx hxl
   -- where the second cut lies
   have HDR:Hid (∃ da dc dl,(es.drop (i+1)).length=dl∧(∀ W,Below wr.heap.size wr W→RdE W da dc (es.drop (i+1)))∧((gc=i+1∧da=some ⟨b,off,none⟩∧dc=0∧dl=0)∨(gc≠i+1∧da=some ⟨b,off+(i+1),none⟩∧dc=gc - (i+1)∧dl=N - (i+1)))):=by
    by_cases hce:gc=i+1
    ·refine ⟨some ⟨b,off,none⟩,0,0,by rw [HT2.out];omega,fun W hW=>?_,.inl ⟨hce,rfl,rfl,rfl⟩⟩
     have:es.drop (i+1)=[]:=List.drop_eq_nil_of_le (by rw [HLN.out];omega)
     rw [this]
     exact ⟨Nat.le_refl _,Nat.zero_le _,.inl rfl,fun e he=>by cases he⟩
    ·exact ⟨_,_,_,HT2.out,fun W hW=>(HRD.out.below hW).dropE (k:=i+1) (by rw [HLN.out];omega),.inr ⟨hce,rfl,rfl,rfl⟩⟩
   obtain ⟨da,dc,dl,hdl,hdr,hcase⟩:=HDR.out
   have HDL:=Hid.mk' hdl
   have HLEN:Hid (([] ++ es.take i).length+dl≤100):=by
    show ([] ++ es.take i).length+dl≤100
    rw [List.nil_append,HT1.out,← hdl,HT2.out];omega
   have HLEN9:Hid (∀ y:E,([] ++ es.take i ++ [y]).length+dl≤100):=fun y=>by
    rw [List.length_append,List.nil_append,HT1.out,← hdl,HT2.out];simp;omega
   clear hdl
   have HDD:=Hid.mk' hdr
   have HBX:=Hid.mk' (bel_one wr (.cells #[] 45)).drew
   have HRX:Hid (RowE wr.heap.size (wr.alloc (.cells #[] 45)).drew (.slice (some ⟨wr.heap.size,0,none⟩) 0 0) []):=(RowE.start (Nat.le_refl _)).below (Below.refl _ _).drew
   have hlx0:wr.heap.size≤(wr.alloc (.cells #[] 45)).drew.heap.size:=HBX.out.size
   have HOWN:Hid (∀ (lo:Nat) (W:World) (tv:Value) (es':List E),RowE lo W tv es'→∀ k,tv.ownBlock=some k→lo≤k):=fun lo W tv es' h k hk=>(h.row.lt k hk).1
   clear hdr HDR
   -- all that follows behind the two cuts
   rcases hcase with ⟨hce,rfl,rfl,rfl⟩ | ⟨hce,rfl,rfl,rfl⟩
   all_goals
    (try (have hceI:(gc:Int)=(i:Int)+1:=by omega))
    (try subst hce)
    have hic2:(i:Int)≤(i:Int)+1:=by omega
    go_wp2_with fail
    go_region_law (first | (refine step_pushR (by rfl) (.tmp 32) (.tmp 35) (by rfl) HRX.out (by rfl) HT1.out (by rfl) (HTK.out _ HBX.out) (HEL1.out _ _ HBX.out (HOWN.out _ _ _ _ HRX.out)) hlx0 (by simp;omega) ?_;intro tv1 w4 r1 r2 r3;have RR1:=Hid.mk' r1;have BB1:=Hid.mk' (r2 _ _ HBX.out (Nat.le_refl _));have hx4:=BB1.out.size;have rn1:=HLEN.out;clear r1 r2 r3) | (refine step_pushR (by rfl) (.tmp 36) (.tmp 40) (by rfl) RR1.out (by rfl) HDL.out (by rfl) (HDD.out _ BB1.out) (HEL2.out _ _ BB1.out (HOWN.out _ _ _ _ RR1.out)) hx4 rn1 ?_;intro tv2 w5 r1 r2 r3;have RR2:=Hid.mk' r1;have BB2:=Hid.mk' (r2 _ _ BB1.out (Nat.le_refl _));clear r1 r2 r3))
    have hoth:[] ++ es.take i ++ es.drop (i+1)=othL es i:=rfl
    have RR3:Hid (RowE wr.heap.size w5 tv2 (othL es i)):=RR2.out
    obtain ⟨oa,oc,hov,hrdo⟩:=RR3.out.rd (by rw [othL_len (by rw [HLN.out];exact hit),HLN.out];omega)
    rw [othL_len (by rw [HLN.out];exact hit),HLN.out] at hov
    subst hov
    have kx:=HXC.out w5 BB2.out
    have HC6:=Hid.mk' (HAL.out w5 oa oc BB2.out hrdo)
    clear hrdo hoth hlx0 hx4 rn1
    go_wp2_with fail
    refine HC6.out.mono ?_
    rintro r w6 ⟨hb6,hh⟩
    have BB6:=Hid.mk' (bel_next BB2.out hb6)
    rcases hh with ⟨D,qa,qc,ad6,cp6,ra,rc,hD,rfl,_,hr6,_⟩ | ⟨hD,qa,qc,ra,rc,rfl⟩
    ·have hok6:=HSR.out D hD
     have HOK6:=Hid.mk' hok6
     have HR6:=Hid.mk' hr6
     obtain ⟨rl,hrl⟩:∃ rl,D.r.length=rl:=⟨_,rfl⟩
     have hrl4:(rl:Int)≤400:=by have:=(okL_falls hok6).1;omega
     rw [hrl]
     by_cases hz:rl=0
     ·subst hz
      have hR7:R0=none:=by
       rw [← HR.out,show N - i=(N - (i+1))+1 by omega,lstRun_no]
       rw [HLS.out,hD]
       exact if_pos hrl
      subst hR7
      have BB7:=Hid.mk' (bel_next (bel_next HB.out BB6.out) (bel_one w6 (.cells #[] 45)))
      clear hb6 hr6 hok6 hD hrl
      go_wp2
      refine bodyPost_ret (results_tmp2 rfl _ _ _) rfl ?_
      exact ⟨BB7.out,.inr ⟨rfl,_,_,rfl⟩⟩
     ·have hzI:¬ (rl:Int)=0:=by omega
      have hY:lftL o (Lof l i) (othL l i)=some (monL o D.r):=by
       rw [HLS.out,hD]
       exact if_neg (by rw [hrl];exact hz)
      have hRn:lstRun o (N - (i+1)) (i+1) (putL l i (monL o D.r))=R0:=by
       rw [← HR.out,show N - i=(N - (i+1))+1 by omega,lstRun_yes hY]
      have hOn:=putL_ok (i:=i) HO.out (lftL_ok hY)
      have HMO:Hid (∀ W,Below w6.heap.size w6 W→Calls Tryz.prog 43 #[.int .i64 o,.slice ra rl rc] W fun r w'=>∃ a' c',r=.returned (.slice a' (monL o D.r).length c')∧Below W.heap.size W w'∧Out W.heap.size w' a' c' (monL o D.r)):=fun W hW=>by
       have:=l10MonicS W o ra rc D.r (Rd.below HR6.out hW) HOK6.out (by rw [hrl];exact hz)
       rw [hrl] at this
       exact this
      have hYl:(monL o D.r).length≤400:=(okL_falls (lftL_ok hY).1).1
      obtain ⟨Y,hYe⟩:∃ Y,monL o D.r=Y:=⟨_,rfl⟩
      rw [hYe] at hRn hOn hYl HMO
      have HRN:=Hid.mk' hRn
      have HON:=Hid.mk' hOn
      obtain ⟨yl,hyl⟩:∃ yl,Y.length=yl:=⟨_,rfl⟩
      rw [hyl] at HMO
      have HYL:=Hid.mk' hyl
      have B6:=Hid.mk' (bel_one w6 (.cells #[] 45))
      have BX6:=Hid.mk' (bel_next BB6.out B6.out)
      have RX6:Hid (RowE w6.heap.size (w6.alloc (.cells #[] 45)) (.slice (some ⟨w6.heap.size,0,none⟩) 0 0) []):=RowE.start (Nat.le_refl _)
      have hlx6:w6.heap.size≤(w6.alloc (.cells #[] 45)).heap.size:=B6.out.size
      have HOW:Hid (∀ (W:World) (tv:Value) (es':List E),RowE w6.heap.size W tv es'→∀ k,tv.ownBlock=some k→wr.heap.size≤k):=fun W tv es' h k hk=>Nat.le_trans BB6.out.size (h.row.lt k hk).1
      clear hb6 hr6 hok6 hD hrl hY hRn hOn hYe hyl hYl kx
      go_wp2_with (at_builtin;refine wpList_pushR (by rfl) (.tmp 61) (.tmp 64) (by rfl) RX6.out (by rfl) HT1.out (by rfl) (HTK.out _ BX6.out) (HEL1.out _ _ BX6.out (HOW.out _ _ _ RX6.out)) hlx6 (by simp;omega) ?_;intro tv7 w7 r1 r2 r3;have R7:=Hid.mk' r1;have B7:=Hid.mk' (r2 _ _ B6.out (Nat.le_refl _));clear r1 r2 r3)
      refine (HMO.out w7 B7.out).mono ?_
      rintro r w8 ⟨ya,yc,rfl,hb8,hY8⟩
      have hbx8:=bel_one w8 (.cells #[.slice ya yl yc] 45)
      have B8:=Hid.mk' (bel_next (bel_next B7.out hb8) hbx8)
      have R8:=Hid.mk' ((R7.out.below hb8).below hbx8)
      have hlx8:w6.heap.size≤(w8.alloc (.cells #[.slice ya yl yc] 45)).heap.size:=B8.out.size
      have RD8:Hid (RdE (w8.alloc (.cells #[.slice ya yl yc] 45)) (some ⟨w8.heap.size,0,none⟩) 1 [(⟨ya,yc,Y⟩:E)]):=by
       have:=RdE.box (W:=w8) (e:=(⟨ya,yc,Y⟩:E)) hY8.1
       rw [show (⟨ya,yc,Y⟩:E).v=.slice ya yl yc by show Value.slice ya Y.length yc=_;rw [HYL.out]] at this
       exact this
      have EL8:Hid (∀ e∈[(⟨ya,yc,Y⟩:E)],ElE (w8.alloc (.cells #[.slice ya yl yc] 45)) tv7.ownBlock e):=fun e he=>by
       rw [List.mem_singleton.1 he]
       refine ⟨Rd.below hY8.1 hbx8,hY8.2.2.imp id (fun ⟨g,off,e,hg⟩ b' off' e' hk=>?_)⟩
       have e2:ya=some ⟨b',off',none⟩:=e'
       rw [e] at e2
       cases e2
       have:=(R7.out.row.lt _ hk).2
       omega
      have hn8:([] ++ es.take i).length+1≤100:=by rw [List.nil_append,HT1.out];omega
      clear hb8 hY8 hbx8
      go_wp2_with (first | (at_builtin;refine wpList_pushR (by rfl) (.tmp 65) (.tmp 69) (by rfl) R8.out (by rfl) rfl (by rfl) RD8.out EL8.out hlx8 hn8 ?_;intro tv9 w9 r1 r2 r3;have R9:=Hid.mk' r1;have B9:=Hid.mk' (r2 _ _ B8.out (Nat.le_refl _));have BX9:=Hid.mk' (bel_next BB6.out B9.out);have hlx9:=B9.out.size;have hn9:=HLEN9.out (⟨ya,yc,Y⟩:E);clear r1 r2 r3) | (at_builtin;refine wpList_pushR (by rfl) (.tmp 71) (.tmp 75) (by rfl) R9.out (by rfl) HDL.out (by rfl) (HDD.out _ BX9.out) (HEL2.out _ _ BX9.out (HOW.out _ _ _ R9.out)) hlx9 hn9 ?_;intro tv10 w10 r1 r2 r3;have R10:=Hid.mk' r1;have B10:=Hid.mk' (r2 _ _ B9.out (Nat.le_refl _));clear r1 r2 r3))
      have BF:=Hid.mk' (bel_next (bel_next HB.out BB6.out) B10.out)
      have RF:Hid (RowE w.heap.size w10 tv10 (es.take i ++ [(⟨ya,yc,Y⟩:E)] ++ es.drop (i+1))):=R10.out.weak (Nat.le_trans HB.out.size BB6.out.size)
      have HPF:=Hid.mk' (HPUTL.out ya yc Y)
      go_roundw
      case rel=>exact ⟨i+1,es.take i ++ [(⟨ya,yc,Y⟩:E)] ++ es.drop (i+1),putL l i Y,by omega,by go_num,BF.out,RF.out,HPF.out.1,HON.out,HPF.out.2,HRN.out⟩
      case measure=>simp [intOf];omega
    ·have hR7:R0=none:=by
      rw [← HR.out,show N - i=(N - (i+1))+1 by omega,lstRun_no]
      rw [HLS.out,hD]
      rfl
     subst hR7
     have BB7:=Hid.mk' (bel_next (bel_next HB.out BB6.out) (bel_one w6 (.cells #[] 45)))
     clear hb6 hD
     go_wp2
     refine bodyPost_ret (results_tmp2 rfl _ _ _) rfl ?_
     exact ⟨BB7.out,.inr ⟨rfl,_,_,rfl⟩⟩
  ·have hiI:¬ (i:Int)<(N:Int):=by omega
   have hie:i=N:=by omega
   have hRl:R0=some l:=by rw [← HR.out,hie,Nat.sub_self];rfl
   have hln:l.length=N:=by rw [← HP.out,List.length_map,HLN.out]
   have hF:=HRD.out.rds
   rw [HP.out,HLN.out] at hF
   subst hie
   subst hRl
   have HF:Hid (∃ l' qa qc ad cp,some l=some l'∧Ending.returned (.tuple #[.slice ga i gc,.bool true])=.returned (.tuple #[.slice qa l'.length qc,.bool true])∧RdS wr qa l'.length qc ad (lN (Lof l')) cp (fN (Lof l'))):=⟨l,ga,gc,_,_,rfl,by rw [hln],by rw [hln];exact hF⟩
   clear hrd hln hF
   go_wp2
   refine bodyPost_ret (results_tmp2 rfl _ _ _) rfl ?_
   exact ⟨HB.out,.inl HF.out⟩
end Go.Proofs.YtdidlcjhodejjaaGreat
namespace Go.Proofs.YtdidlcjhodejjaaGreat
open Go.RowKit
set_option linter.unusedVariables false
def prN:Nat→Nat→Nat
 | 0,c=>2 * c
 | a+1,c=>2 * prN a c+1
def unN (n:Nat):Nat × Nat:=if h:n % 2=0 then (0,n / 2) else ((unN (n / 2)).1+1,(unN (n / 2)).2)
termination_by n
decreasing_by all_goals omega
theorem un_pr:∀ a c,unN (prN a c)=(a,c)
 | 0,c=>by unfold unN prN;rw [dif_pos (by omega),show 2 * c / 2=c by omega]
 | a+1,c=>by
  have ih:=un_pr a c
  unfold unN prN
  rw [dif_neg (by omega),show (2 * prN a c+1) / 2=prN a c by omega,ih]
theorem pr_un (n:Nat):prN (unN n).1 (unN n).2=n:=by
 induction n using Nat.strongRecOn with
 | ind n ih=>
  unfold unN
  by_cases h:n % 2=0
  ·rw [dif_pos h];show 2 * (n / 2)=n;omega
  ·rw [dif_neg h]
   have:=ih (n / 2) (by omega)
   show 2 * prN (unN (n / 2)).1 (unN (n / 2)).2+1=n
   rw [this];omega
def lfN (n:Nat):Nat:=(unN n).1
def rtN (n:Nat):Nat:=(unN n).2
theorem lf_pr (a c:Nat):lfN (prN a c)=a:=by unfold lfN;rw [un_pr]
theorem rt_pr (a c:Nat):rtN (prN a c)=c:=by unfold rtN;rw [un_pr]
theorem pr_lr (n:Nat):prN (lfN n) (rtN n)=n:=pr_un n
def rX:Lq:=⟨fun u n k=>u (prN (lfN n+1) (rtN n)) k,fun _ _=>rfl,fun _ _=>rfl⟩
def rY:Lq:=⟨fun u n k=>u n (prN (lfN k+1) (rtN k)),fun _ _=>rfl,fun _ _=>rfl⟩
def rD:Lq:=⟨fun u n k=>u (prN (lfN n) (rtN n+1)) k+nf (lfN n) * u (prN (lfN n - 1) (rtN n)) k,fun u v=>by funext n k;simp only [va];grind,fun c u=>by funext n k;simp only [vs];grind⟩
def rE:Lq:=⟨fun u n k=>u n (prN (lfN k) (rtN k+1))+nf (lfN k) * u n (prN (lfN k - 1) (rtN k)),fun u v=>by funext n k;simp only [va];grind,fun c u=>by funext n k;simp only [vs];grind⟩
def regG:Gen where
 x:=rX
 y:=rY
 d:=rD
 e:=rE
 wx:=Lq.ext fun u n k=>by
  show u (prN (lfN (prN (lfN n+1) (rtN n))) (rtN (prN (lfN n+1) (rtN n))+1)) k+nf (lfN (prN (lfN n+1) (rtN n))) * u (prN (lfN (prN (lfN n+1) (rtN n)) - 1) (rtN (prN (lfN n+1) (rtN n)))) k=u (prN (lfN (prN (lfN n) (rtN n+1))+1) (rtN (prN (lfN n) (rtN n+1)))) k+nf (lfN n) * u (prN (lfN (prN (lfN n - 1) (rtN n))+1) (rtN (prN (lfN n - 1) (rtN n)))) k+u n k
  simp only [lf_pr,rt_pr]
  rw [show lfN n+1 - 1=lfN n by omega,pr_lr,nf_add,nf_one]
  cases h:lfN n with
  | zero=>rw [nf_zero];grind
  | succ m=>rw [show m+1 - 1+1=m+1 by omega,← h,pr_lr];grind
 wy:=Lq.ext fun u n k=>by
  show u n (prN (lfN (prN (lfN k+1) (rtN k))) (rtN (prN (lfN k+1) (rtN k))+1))+nf (lfN (prN (lfN k+1) (rtN k))) * u n (prN (lfN (prN (lfN k+1) (rtN k)) - 1) (rtN (prN (lfN k+1) (rtN k))))=u n (prN (lfN (prN (lfN k) (rtN k+1))+1) (rtN (prN (lfN k) (rtN k+1))))+nf (lfN k) * u n (prN (lfN (prN (lfN k - 1) (rtN k))+1) (rtN (prN (lfN k - 1) (rtN k))))+u n k
  simp only [lf_pr,rt_pr]
  rw [show lfN k+1 - 1=lfN k by omega,pr_lr,nf_add,nf_one]
  cases h:lfN k with
  | zero=>rw [nf_zero];grind
  | succ m=>rw [show m+1 - 1+1=m+1 by omega,← h,pr_lr];grind
 xy:=rfl
 xe:=rfl
 dy:=rfl
 de:=Lq.ext fun u n k=>by
  show (_+nf _ * _)+nf (lfN k) * (_+nf _ * _)=(_+nf _ * _)+nf (lfN n) * (_+nf _ * _)
  grind
def M.nn (m:M):Prop:=0≤m.x∧0≤m.y∧0≤m.d∧0≤m.e
theorem M.nn_ok {m:M} (h:m.ok=true):m.nn:=by
 obtain ⟨x1,x2,y1,y2,d1,d2,e1,e2⟩:=M.ok_iff.1 h
 exact ⟨x1,y1,d1,e1⟩
def kf (o:Int) (a:M):Int:=if o=1 then a.x+a.y+a.d+a.e else if o=3 then a.d+a.x else 0
def klt (o:Int) (a b:M):Prop:=kf o a<kf o b∨(kf o a=kf o b∧(a.d<b.d∨(a.d=b.d∧(a.e<b.e∨(a.e=b.e∧(a.x<b.x∨(a.x=b.x∧a.y<b.y)))))))
theorem kf1 (a:M):kf 1 a=a.x+a.y+a.d+a.e:=if_pos rfl
theorem kf2 (a:M):kf 2 a=0:=(if_neg (by decide)).trans (if_neg (by decide))
theorem kf3 (a:M):kf 3 a=a.d+a.x:=(if_neg (by decide)).trans (if_pos rfl)
theorem rkK1 (a:M):rkW 1 a=rkD a:=if_pos rfl
theorem rkK2 (a:M):rkW 2 a=rkL a:=(if_neg (by decide)).trans (if_neg (by decide))
theorem rkK3 (a:M):rkW 3 a=rkO a:=(if_neg (by decide)).trans (if_pos rfl)
theorem klt_trans {o:Int} {a b c:M} (h1:klt o a b) (h2:klt o b c):klt o a c:=by
 unfold klt at *
 generalize kf o a=p at *
 generalize kf o b=q at *
 generalize kf o c=r at *
 omega
theorem M.eta4 {a b:M} (h1:a.x=b.x) (h2:a.y=b.y) (h3:a.d=b.d) (h4:a.e=b.e):a=b:=by
 cases a;cases b
 simp only at h1 h2 h3 h4
 rw [h1,h2,h3,h4]
theorem rkW_klt {o:Int} (ho:1≤o∧o≤3) {a b:M} (ha:a.ok=true) (hb:b.ok=true) (h:rkW o a<rkW o b):klt o a b:=by
 obtain ⟨x1,x2,y1,y2,d1,d2,e1,e2⟩:=M.ok_iff.1 ha
 obtain ⟨x3,x4,y3,y4,d3,d4,e3,e4⟩:=M.ok_iff.1 hb
 have h3:o=1∨o=2∨o=3:=by omega
 unfold klt
 rcases h3 with rfl | rfl | rfl
 ·rw [rkK1,rkK1] at h;rw [kf1,kf1];unfold rkD rkL at h;omega
 ·rw [rkK2,rkK2] at h;rw [kf2,kf2];unfold rkL at h;omega
 ·rw [rkK3,rkK3] at h;rw [kf3,kf3];unfold rkO rkL at h;omega
end Go.Proofs.YtdidlcjhodejjaaGreat
