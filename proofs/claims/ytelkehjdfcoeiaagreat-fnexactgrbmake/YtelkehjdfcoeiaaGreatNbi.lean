/-
  A proof is made, column by column: impl.grbProof.
-/
import Derived.Test.YtelkehjdfcoeiaaGreatNbg
import Derived.Test.YtelkehjdfcoeiaaGreatNbh
set_option maxHeartbeats 16000000
set_option maxRecDepth 100000
namespace Go.Proofs.YtelkehjdfcoeiaaGreat
open Go.RowKit Go.Deep Go.Joins
set_option linter.unusedVariables false
set_option linter.unusedSimpArgs false
structure BN (w:World) (oa:Option Addr) (M oc:Nat) (qa:Nat→Option Addr) (qc:Nat→Nat) (ra:Nat→Option Addr) (rc:Nat→Nat) (rad:Nat→Nat→Option Addr) (rcp:Nat→Nat→Nat) (g:Nat) (qs:Nat→List T) (Q:Nat→Nat→List T):Prop where
 cap:M≤oc
 len:M≤100
 pos:M=0∨∃b off,oa=some ⟨b,off,none⟩∧b<w.heap.size∧∀t,t<M→w.cell? ⟨b,off+t*2,none⟩=some (.slice (qa t) (qs t).length (qc t))∧w.cell? ⟨b,off+t*2+1,none⟩=some (.slice (ra t) g (rc t))
 q:∀t,t<M→RL w (qa t) (qc t) (qs t)
 r:∀t,t<M→eH w (ra t) g (rc t) (rad t) (lN (Q t)) (rcp t) (fN (Q t))
theorem BN.below {w w':World} {oa:Option Addr} {M oc:Nat} {qa:Nat→Option Addr} {qc:Nat→Nat} {ra:Nat→Option Addr} {rc:Nat→Nat} {rad:Nat→Nat→Option Addr} {rcp:Nat→Nat→Nat} {g:Nat} {qs:Nat→List T} {Q:Nat→Nat→List T} (h:BN w oa M oc qa qc ra rc rad rcp g qs Q) (hb:Below w.heap.size w w'):BN w' oa M oc qa qc ra rc rad rcp g qs Q:=
 ⟨h.cap,h.len,h.pos.imp id (fun⟨b,off,e,hlt,hc⟩=>⟨b,off,e,iZ hlt hb.size,fun t ht=>⟨(hb.cell (p:=⟨b,off+t*2,none⟩) hlt).trans (hc t ht).1,(hb.cell (p:=⟨b,off+t*2+1,none⟩) hlt).trans (hc t ht).2⟩⟩),fun t ht=>(h.q t ht).below hb,fun t ht=>(h.r t ht).below hb⟩
def Db (w:World) (g:Nat) (E:Option (Nat→List T)) (r:Ending) (w':World):Prop:=
 Below w.heap.size w w'∧((∃R ra rc ad cp lo Rb B,E=some R∧r= .returned (.slice ra g rc)∧w.heap.size≤lo∧dV lo w' ra g rc ad (lN R) cp (fN R) Rb B)∨(E=none∧r= .panicked [{v:=dU,recovered:=false}]))
abbrev FE (u:World) (bx:Nat) (v0 v1:Value) (rb x:Nat) (v2:Value):Prop:=u.cell? ⟨bx,0,none⟩=some v0∧u.cell? ⟨bx,1,none⟩=some v1∧u.cell? ⟨rb,x,none⟩=some v2
theorem FE.below {u u':World} {bx:Nat} {v0 v1:Value} {rb x:Nat} {v2:Value} (h:FE u bx v0 v1 rb x v2) (hb:Below u.heap.size u u'):FE u' bx v0 v1 rb x v2:=
 ⟨(hb.cell (p:=⟨bx,0,none⟩) (cQ u _ h.1)).trans h.1,(hb.cell (p:=⟨bx,1,none⟩) (cQ u _ h.2.1)).trans h.2.1,(hb.cell (p:=⟨rb,x,none⟩) (cQ u _ h.2.2)).trans h.2.2⟩
theorem BJ (w:World) (y:TypeId) (v0 v1:Value):(w.alloc (.cells #[v0,v1] y)).cell? ⟨w.heap.size,0,none⟩=some v0∧(w.alloc (.cells #[v0,v1] y)).cell? ⟨w.heap.size,1,none⟩=some v1:=⟨by rw[World.cell?_alloc_at _ _ _ _ rfl];rfl,by rw[World.cell?_alloc_at _ _ _ _ rfl];rfl⟩
theorem vX {F:List T} {P0:Nat→List T} {qs:Nat→List T} {Q:Nat→Nat→List T} {j t:Nat} {s:List T} (h:JC F P0 qs Q j t=some s):JC F P0 qs Q j (t+1)=JE s (qs t) (Q t j):=by show(JC F P0 qs Q j t).bind (fun s=>JE s (qs t) (Q t j))=_;rw[h];rfl
theorem rQ {F:List T} {P0:Nat→List T} {qs:Nat→List T} {Q:Nat→Nat→List T} {j t:Nat} (h:JC F P0 qs Q j t=none):∀d,JC F P0 qs Q j (t+d)=none
 |0=>h
 |d+1=>by show(JC F P0 qs Q j (t+d)).bind (fun s=>JE s (qs (t+d)) (Q (t+d) j))=none;rw[rQ h d];rfl
theorem Aq {s q X Y:List T} (h:kO q X=(Y,false)):JE s q X=none:=by unfold JE;rw[h]
theorem Ar {s q X Y Z:List T} (h:kO q X=(Y,true)) (h2:rZ s Y=(Z,false)):JE s q X=none:=by unfold JE;rw[h];simp only[h2]
theorem As {s q X Y Z:List T} (h:kO q X=(Y,true)) (h2:rZ s Y=(Z,true)):JE s q X=some Z:=by unfold JE;rw[h];simp only[h2]
theorem Am {F X Y:List T} (h:kO F X=(Y,false)):AF F X=none:=by unfold AF;rw[h]
theorem Ao {F X Y:List T} (h:kO F X=(Y,true)):AF F X=some Y:=by unfold AF;rw[h]
theorem WR {w:World} {a b:Option Addr} {ca cb:Nat} {L K:List T} (ha:RL w a ca L) (hb:RL w b cb K):Calls Tryz.prog 28 #[.slice a L.length ca,.slice b K.length cb] w fun r w'=>∃a' c',r= .returned (.tuple #[.slice a' (kO L K).1.length c',.bool (kO L K).2])∧Below w.heap.size w w'∧gX w.heap.size w' a' c' (kO L K).1:=uO w a b L.length ca K.length cb (lf L) (lf K) ha hb
theorem YS {w:World} {a b:Option Addr} {ca cb:Nat} {L K:List T} (ha:RL w a ca L) (hb:RL w b cb K):Calls Tryz.prog 144 #[.slice a L.length ca,.slice b K.length cb] w fun r w'=>∃a' c',r= .returned (.tuple #[.slice a' (rZ L K).1.length c',.bool (rZ L K).2])∧Below w.heap.size w w'∧gX w.heap.size w' a' c' (rZ L K).1:=JF w a b L.length ca K.length cb (lf L) (lf K) ha hb
theorem KZ (w:World) (fa:Option Addr) (fc:Nat) (F:List T) (hF:RL w fa fc F) (ia:Option Addr) (g ic:Nat) (iad:Nat→Option Addr) (icp:Nat→Nat) (P0:Nat→List T) (hI:eH w ia g ic iad (lN P0) icp (fN P0)) (hg:g≤12) (oa:Option Addr) (M oc:Nat) (qa:Nat→Option Addr) (qc:Nat→Nat) (ra:Nat→Option Addr) (rc:Nat→Nat) (rad:Nat→Nat→Option Addr) (rcp:Nat→Nat→Nat) (qs:Nat→List T) (Q:Nat→Nat→List T) (hO:BN w oa M oc qa qc ra rc rad rcp g qs Q) {E:Option (Nat→List T)} (hE:iE (fun j=>JC F P0 qs Q j M) g=E):Calls Tryz.prog 160 #[.agg #[.slice fa F.length fc,.slice ia g ic],.slice oa M oc] w (Db w g E):=by
 obtain⟨i0,hi0,hz0,hz1,hz2⟩:=info_parts pR;have hgl:(g:Int)≤12:=by omega
 have hMl:(M:Int)≤100:=by have:=hO.len;omega
 obtain⟨w1,hw1⟩:∃w1,w.alloc (.cells #[.slice fa F.length fc,.slice ia g ic] 194)=w1:=⟨_,rfl⟩
 have b1:Below w.heap.size w w1:=by rw[←hw1];exact aC w _
 have HX1:Hid (w1.cell? ⟨w.heap.size,0,none⟩=some (.slice fa F.length fc)∧w1.cell? ⟨w.heap.size,1,none⟩=some (.slice ia g ic)):=by rw[←hw1];exact BJ w 194 _ _
 have HB1:=aA b1;have HF1:=aA (hF.below b1)
 have HI1:=aA (hI.below b1);have HO1:=aA (hO.below b1)
 have HE:=aA hE;have hs1:w.heap.size<w1.heap.size:=cQ w1 _ HX1.out.1
 obtain⟨k0,k1⟩:=HX1.out;clear hF hI hO hE b1;go_enter Tryz.func160,Tryz.ntmps160;go_wp2;clear hw1;go_loopw [5,14] (fun tv ii wr=>∃(j:Nat) (X:Nat→List T) (ad:Nat→Option Addr) (cp B:Nat→Nat),j≤g∧ii= .int .i64 (j:Int)∧iE (fun j=>JC F P0 qs Q j M) j=some X∧Below w1.heap.size w1 wr∧lE w1.heap.size wr X j tv ad cp B) (fun _ ii _=>g-(intOf ii).toNat);case atStart=>exact⟨0,fun _=>[],_,_,_,Nat.zero_le _,rfl,rfl,bQ _ _,lE.start (Nat.le_refl _) _⟩
 case round=>
  obtain⟨j,X,ad,cp,B,hj,rfl,hX,hB,hA⟩:=hrel;obtain⟨wo,rfl⟩:∃x,x=wr:=⟨_,rfl⟩
  have HX:=aA hX;have HB:=aA hB
  have HA:=aA hA;clear hX k0 k1;by_cases hlt:j<g
  ·have hjl:(j:Int)<(g:Int):=by omega
   have hmax:j+1≤maxLen:=by unfold maxLen;omega
   obtain⟨ib,ioff,rfl,hib,hicl⟩:=HI1.out.2.2.1.resolve_left (by omega);obtain⟨PJ,hPJ⟩:∃PJ,P0 j=PJ:=⟨_,rfl⟩
   have cj:wo.cell? ⟨ib,ioff+j,none⟩=some (.slice (iad j) PJ.length (icp j)):=(hB.cell (p:=⟨ib,ioff+j,none⟩) hib).trans (by rw[←hPJ];exact hicl j hlt);have c0:wo.cell? ⟨w.heap.size,0,none⟩=some (.slice fa F.length fc):=(hB.cell (p:=⟨w.heap.size,0,none⟩) hs1).trans HX1.out.1
   have RJ:Hid (RL wo (iad j) (icp j) PJ):=by rw[←hPJ];exact(HI1.out.2.2.2 j hlt).below hB
   have RF:=aA (HF1.out.below hB);obtain⟨Y,o0,hY⟩:∃Y b,kO F PJ=(Y,b):=⟨_,_,rfl⟩
   have hc:=WR RF.out RJ.out;rw[hY]at hc;have HC:=aA hc
   have hY':kO F (P0 j)=(Y,o0):=by rw[hPJ];exact hY
   have HY:=aA hY';have hsr:w1.heap.size≤wo.heap.size:=hB.size
   clear hicl hPJ hY hY' hc hB hA;go_wp2_with fail;refine HC.out.mono ?_;rintro e w4 ⟨ya,yc,rfl,b4,hy⟩;have HB4:=aA (aB HB.out b4)
   have HA4:=aA (HA.out.below b4);have HBr4:=aA b4
   have HY4:=aA hy;clear b4 hy HC cj c0;cases o0
   ·have hEn:E=none:=by
     rw[←HE.out];refine mD (i:=j) ?_ g hlt;have:=rQ (qs:=qs) (Q:=Q) (j:=j) (t:=0) (Am HY.out) M
     rwa[Nat.zero_add]at this
    subst hEn;go_wp2_with fail;refine(eC _ _).mono ?_;rintro e wn ⟨rfl,hwn⟩;obtain rfl:=hwn.symm;clear hwn;exact⟨rfl,HB1.out.trans (HB4.out.mono (Nat.le_of_lt hs1)),.inr ⟨rfl,rfl⟩⟩
   go_wp2_with fail;refine(eZ _ _).mono ?_;rintro e wn ⟨rfl,hwn⟩;obtain rfl:=hwn.symm;clear hwn;go_wp2;go_loopw [8,28] (fun sv tt wi=>∃(t:Nat) (s:List T) (sa:Option Addr) (sc:Nat),t≤M∧tt= .int .i64 (t:Int)∧JC F P0 qs Q j t=some s∧sv= .slice sa s.length sc∧Below w4.heap.size w4 wi∧gX wo.heap.size wi sa sc s) (fun _ tt _=>M-(intOf tt).toNat);case atStart=>exact⟨0,Y,ya,yc,Nat.zero_le _,rfl,Ao HY.out,rfl,bQ _ _,HY4.out⟩
   case round=>
    obtain⟨t,s,sa,sc,ht,rfl,hs,rfl,hBi,hso⟩:=hrel;have HS:=aA hs
    have HBi:=aA hBi;have HSO:=aA hso
    clear hs hso;by_cases htm:t<M
    ·have htl:(t:Int)<(M:Int):=by omega
     obtain⟨ob,off,rfl,hob,hocl⟩:=HO1.out.pos.resolve_left (by omega);have hB1i:=aB HB4.out hBi
     obtain⟨ca,cb⟩:=hocl t htm;have d0:=(hB1i.cell (p:=⟨ob,off+t*2,none⟩) hob).trans ca
     have d1:=(hB1i.cell (p:=⟨ob,off+t*2+1,none⟩) hob).trans cb;obtain⟨rb,roff,era,hrb,hrcl⟩:=(HO1.out.r t htm).2.2.1.resolve_left (by omega);obtain⟨QJ,hQJ⟩:∃QJ,Q t j=QJ:=⟨_,rfl⟩
     have cr:wr.cell? ⟨rb,roff+j,none⟩=some (.slice (rad t j) QJ.length (rcp t j)):=(hB1i.cell (p:=⟨rb,roff+j,none⟩) hrb).trans (by rw[←hQJ];exact hrcl j hlt);rw[era]at d1;obtain⟨bx,hbx⟩:∃bx,bx=wr.heap.size:=⟨_,rfl⟩
     have bX:=aB (aC wr (.cells #[.slice (qa t) (qs t).length (qc t),.slice (some ⟨rb,roff,none⟩) g (rc t)] 194)) (bQ _ _).drew;have HS0:Hid (FE (wr.alloc (.cells #[.slice (qa t) (qs t).length (qc t),.slice (some ⟨rb,roff,none⟩) g (rc t)] 194)).drew wr.heap.size (.slice (qa t) (qs t).length (qc t)) (.slice (some ⟨rb,roff,none⟩) g (rc t)) rb (roff+j) (.slice (rad t j) QJ.length (rcp t j))):=⟨(BJ wr 194 _ _).1,(BJ wr 194 _ _).2,(bX.cell (p:=⟨rb,roff+j,none⟩) (cQ wr _ cr)).trans cr⟩
     have HBX:=aA (aB hBi bX);have HB1X:=aA (aB hB1i bX)
     have RQ:=aA (((HO1.out.q t htm).below hB1i).below bX);have RR:Hid (RL (wr.alloc (.cells #[.slice (qa t) (qs t).length (qc t),.slice (some ⟨rb,roff,none⟩) g (rc t)] 194)).drew (rad t j) (rcp t j) QJ):=by rw[←hQJ];exact(((HO1.out.r t htm).2.2.2 j hlt).below hB1i).below bX
     have HS5:Hid (gX wo.heap.size (wr.alloc (.cells #[.slice (qa t) (qs t).length (qc t),.slice (some ⟨rb,roff,none⟩) g (rc t)] 194)).drew sa sc s):=HSO.out.below bX;obtain⟨Y1,o1,hY1⟩:∃Y b,kO (qs t) QJ=(Y,b):=⟨_,_,rfl⟩
     obtain⟨Z1,o2,hZ1⟩:∃Z b,rZ s Y1=(Z,b):=⟨_,_,rfl⟩
     have hc1:=WR RQ.out RR.out;rw[hY1]at hc1;have HC1:=aA hc1
     have HC2:Hid (∀(W:World) (ya:Option Addr) (yc:Nat),RL W sa sc s→RL W ya yc Y1→Calls Tryz.prog 144 #[.slice sa s.length sc,.slice ya Y1.length yc] W fun r w'=>∃a' c',r= .returned (.tuple #[.slice a' Z1.length c',.bool o2])∧Below W.heap.size W w'∧gX W.heap.size w' a' c' Z1):=fun W ya yc h1 h2=>by have:=YS h1 h2;rw[hZ1]at this;exact this
     have hY2:kO (qs t) (Q t j)=(Y1,o1):=by rw[hQJ];exact hY1
     have HY1:=aA hY2;have HZ1:=aA hZ1
     have hsx:wo.heap.size≤wr.heap.size:=by have:=HBr4.out.size;have:=hBi.size;omega
     clear hrcl hocl hQJ hY1 hY2 hZ1 hc1 ca cb hB1i bX hBi cr;subst hbx;cases o1
     ·have hEn:E=none:=by
       rw[←HE.out];refine mD (i:=j) ?_ g hlt;have:=rQ (t:=t+1) ((vX HS.out).trans (Aq HY1.out)) (M-(t+1))
       rwa[show t+1+(M-(t+1))=M by omega]at this
      subst hEn;go_wp2_with fail;have hS:=HS0.out
      refine wp_region_held_drew (S:=(fun x=>FE x wr.heap.size (.slice (qa t) (qs t).length (qc t)) (.slice (some ⟨rb,roff,none⟩) g (rc t)) rb (roff+j) (.slice (rad t j) QJ.length (rcp t j)))) (by kernel_rfl) (hS) (fun hHeld=>?_);refine wpAnyH_take (i:=0) (v:=?_) rfl (by kernel_rfl) (by kernel_rfl) (by kernel_rfl) (fun _ _ _ h=>h) (Or.inl ⟨by rfl,?_⟩) (by assumption) ?_;rotate_left
      ·(intro w9 hSw;(try dsimp only at hSw);go_simp)<;>with_reducible rfl
      try simp only[Act.put,eD]
      refine wpAnyH_take (i:=1) (v:=?_) rfl (by kernel_rfl) (by kernel_rfl) (by kernel_rfl) (fun _ _ _ h=>h) (Or.inl ⟨by rfl,?_⟩) (by assumption) ?_;rotate_left
      ·(intro w9 hSw;(try dsimp only at hSw);go_simp)<;>with_reducible rfl
      try simp only[Act.put,eD]
      refine wpAnyH_take (i:=2) (v:=?_) rfl (by kernel_rfl) (by kernel_rfl) (by kernel_rfl) (fun _ _ _ h=>h) (Or.inl ⟨by rfl,?_⟩) (by assumption) ?_;rotate_left
      ·(intro w9 hSw;(try dsimp only at hSw);go_simp)<;>with_reducible rfl
      try simp only[Act.put,eD]
      refine wpAnyH_take (i:=3) (v:=?_) rfl (by kernel_rfl) (by kernel_rfl) (by kernel_rfl) (fun _ _ _ h=>h) (Or.inl ⟨by rfl,?_⟩) (by assumption) ?_;rotate_left
      ·(intro w9 hSw;(try dsimp only at hSw);go_simp)<;>with_reducible rfl
      try simp only[Act.put,eD]
      refine wpAnyH_take (i:=4) (v:=?_) rfl (by kernel_rfl) (by kernel_rfl) (by kernel_rfl) (fun _ _ _ h=>h) (Or.inl ⟨by rfl,?_⟩) (by assumption) ?_;rotate_left
      ·(intro w9 hSw;(try dsimp only at hSw);go_simp)<;>with_reducible rfl
      try simp only[Act.put,eD]
      refine wpAnyH_take (i:=5) (v:=?_) rfl (by kernel_rfl) (by kernel_rfl) (by kernel_rfl) (fun _ _ _ h=>h) (Or.inl ⟨by rfl,?_⟩) (by assumption) ?_;rotate_left
      ·(intro w9 hSw;(try dsimp only at hSw);go_simp)<;>with_reducible rfl
      try simp only[Act.put,eD]
      refine wpAnyH_take (i:=6) (v:=?_) rfl (by kernel_rfl) (by kernel_rfl) (by kernel_rfl) (fun _ _ _ h=>h) (Or.inl ⟨by rfl,?_⟩) (by assumption) ?_;rotate_left
      ·(intro w9 hSw;(try dsimp only at hSw);go_simp)<;>with_reducible rfl
      try simp only[Act.put,eD]
      refine wpAnyH_take (i:=7) (v:=?_) rfl (by kernel_rfl) (by kernel_rfl) (by kernel_rfl) (fun _ _ _ h=>h) (Or.inl ⟨by rfl,?_⟩) (by assumption) ?_;rotate_left
      ·(intro w9 hSw;(try dsimp only at hSw);go_simp)<;>with_reducible rfl
      try simp only[Act.put,eD]
      refine wpAnyH_ready (rs:=[8]) (by kernel_rfl) (by simp) ?_;refine AllReadyH.cons rfl (fun K hK=>?_) AllReadyH.nil;go_simp;go_wp2_with (go_at_call 28;refine HC1.out.mono ?_;rintro e w5 ⟨ya,yc,rfl,b5,hy⟩);refine hK.out _ _ (by exact FE.below hS b5) (fun hHeld2=>?_);clear hK K hHeld;have hHeld:=hHeld2
      clear hHeld2;try simp only[Act.put,eD]
      refine wpAnyH_take (i:=9) (v:=?_) rfl (by kernel_rfl) (by kernel_rfl) (by kernel_rfl) (fun _ _ _ h=>h) (Or.inl ⟨by rfl,?_⟩) (by assumption) ?_;rotate_left
      ·(intro w9 hSw;(try dsimp only at hSw);go_simp)<;>with_reducible rfl
      try simp only[Act.put,eD]
      refine wpAnyH_take (i:=10) (v:=?_) rfl (by kernel_rfl) (by kernel_rfl) (by kernel_rfl) (fun _ _ _ h=>h) (Or.inl ⟨by rfl,?_⟩) (by assumption) ?_;rotate_left
      ·(intro w9 hSw;(try dsimp only at hSw);go_simp)<;>with_reducible rfl
      try simp only[Act.put,eD]
      refine wpAnyH_ready (rs:=[11]) (by kernel_rfl) (by simp) ?_;refine AllReadyH.cons rfl (fun K hK=>?_) AllReadyH.nil;go_simp;go_wp2_with (go_at_call 142;refine(eC _ _).mono ?_;rintro e wn ⟨rfl,hwn⟩;obtain rfl:=hwn.symm;clear hwn);exact⟨rfl,HB1.out.trans ((aB HB1X.out b5).mono (Nat.le_of_lt hs1)),.inr ⟨rfl,rfl⟩⟩
     cases o2
     ·have hEn:E=none:=by
       rw[←HE.out];refine mD (i:=j) ?_ g hlt;have:=rQ (t:=t+1) ((vX HS.out).trans (Ar HY1.out HZ1.out)) (M-(t+1))
       rwa[show t+1+(M-(t+1))=M by omega]at this
      subst hEn;go_wp2_with fail;have hS:=HS0.out
      refine wp_region_held_drew (S:=(fun x=>FE x wr.heap.size (.slice (qa t) (qs t).length (qc t)) (.slice (some ⟨rb,roff,none⟩) g (rc t)) rb (roff+j) (.slice (rad t j) QJ.length (rcp t j)))) (by kernel_rfl) (hS) (fun hHeld=>?_);refine wpAnyH_take (i:=0) (v:=?_) rfl (by kernel_rfl) (by kernel_rfl) (by kernel_rfl) (fun _ _ _ h=>h) (Or.inl ⟨by rfl,?_⟩) (by assumption) ?_;rotate_left
      ·(intro w9 hSw;(try dsimp only at hSw);go_simp)<;>with_reducible rfl
      try simp only[Act.put,eD]
      refine wpAnyH_take (i:=1) (v:=?_) rfl (by kernel_rfl) (by kernel_rfl) (by kernel_rfl) (fun _ _ _ h=>h) (Or.inl ⟨by rfl,?_⟩) (by assumption) ?_;rotate_left
      ·(intro w9 hSw;(try dsimp only at hSw);go_simp)<;>with_reducible rfl
      try simp only[Act.put,eD]
      refine wpAnyH_take (i:=2) (v:=?_) rfl (by kernel_rfl) (by kernel_rfl) (by kernel_rfl) (fun _ _ _ h=>h) (Or.inl ⟨by rfl,?_⟩) (by assumption) ?_;rotate_left
      ·(intro w9 hSw;(try dsimp only at hSw);go_simp)<;>with_reducible rfl
      try simp only[Act.put,eD]
      refine wpAnyH_take (i:=3) (v:=?_) rfl (by kernel_rfl) (by kernel_rfl) (by kernel_rfl) (fun _ _ _ h=>h) (Or.inl ⟨by rfl,?_⟩) (by assumption) ?_;rotate_left
      ·(intro w9 hSw;(try dsimp only at hSw);go_simp)<;>with_reducible rfl
      try simp only[Act.put,eD]
      refine wpAnyH_take (i:=4) (v:=?_) rfl (by kernel_rfl) (by kernel_rfl) (by kernel_rfl) (fun _ _ _ h=>h) (Or.inl ⟨by rfl,?_⟩) (by assumption) ?_;rotate_left
      ·(intro w9 hSw;(try dsimp only at hSw);go_simp)<;>with_reducible rfl
      try simp only[Act.put,eD]
      refine wpAnyH_take (i:=5) (v:=?_) rfl (by kernel_rfl) (by kernel_rfl) (by kernel_rfl) (fun _ _ _ h=>h) (Or.inl ⟨by rfl,?_⟩) (by assumption) ?_;rotate_left
      ·(intro w9 hSw;(try dsimp only at hSw);go_simp)<;>with_reducible rfl
      try simp only[Act.put,eD]
      refine wpAnyH_take (i:=6) (v:=?_) rfl (by kernel_rfl) (by kernel_rfl) (by kernel_rfl) (fun _ _ _ h=>h) (Or.inl ⟨by rfl,?_⟩) (by assumption) ?_;rotate_left
      ·(intro w9 hSw;(try dsimp only at hSw);go_simp)<;>with_reducible rfl
      try simp only[Act.put,eD]
      refine wpAnyH_take (i:=7) (v:=?_) rfl (by kernel_rfl) (by kernel_rfl) (by kernel_rfl) (fun _ _ _ h=>h) (Or.inl ⟨by rfl,?_⟩) (by assumption) ?_;rotate_left
      ·(intro w9 hSw;(try dsimp only at hSw);go_simp)<;>with_reducible rfl
      try simp only[Act.put,eD]
      refine wpAnyH_ready (rs:=[8]) (by kernel_rfl) (by simp) ?_;refine AllReadyH.cons rfl (fun K hK=>?_) AllReadyH.nil;go_simp;go_wp2_with (go_at_call 28;refine HC1.out.mono ?_;rintro e w5 ⟨ya,yc,rfl,b5,hy⟩);refine hK.out _ _ (by exact FE.below hS b5) (fun hHeld2=>?_);clear hK K hHeld;have hHeld:=hHeld2
      clear hHeld2;try simp only[Act.put,eD]
      refine wpAnyH_take (i:=9) (v:=?_) rfl (by kernel_rfl) (by kernel_rfl) (by kernel_rfl) (fun _ _ _ h=>h) (Or.inl ⟨by rfl,?_⟩) (by assumption) ?_;rotate_left
      ·(intro w9 hSw;(try dsimp only at hSw);go_simp)<;>with_reducible rfl
      try simp only[Act.put,eD]
      refine wpAnyH_take (i:=10) (v:=?_) rfl (by kernel_rfl) (by kernel_rfl) (by kernel_rfl) (fun _ _ _ h=>h) (Or.inl ⟨by rfl,?_⟩) (by assumption) ?_;rotate_left
      ·(intro w9 hSw;(try dsimp only at hSw);go_simp)<;>with_reducible rfl
      try simp only[Act.put,eD]
      refine wpAnyH_ready (rs:=[11]) (by kernel_rfl) (by simp) ?_;refine AllReadyH.cons rfl (fun K hK=>?_) AllReadyH.nil;go_simp;go_wp2_with (go_at_call 142;refine(eZ _ _).mono ?_;rintro e wn ⟨rfl,hwn⟩;obtain rfl:=hwn.symm;clear hwn);refine hK.out _ _ (by exact FE.below hS b5) (fun hHeld2=>?_);clear hK K hHeld;have hHeld:=hHeld2
      clear hHeld2;try simp only[Act.put,eD]
      refine wpAnyH_ready (rs:=[12]) (by kernel_rfl) (by simp) ?_;refine AllReadyH.cons rfl (fun K hK=>?_) AllReadyH.nil;go_simp;go_wp2_with (go_at_call 144;refine(HC2.out w5 ya yc (HS5.out.below b5).1 hy.1).mono ?_;rintro e w6 ⟨za,zc,rfl,b6,hz⟩);refine hK.out _ _ (by exact FE.below (FE.below hS b5) b6) (fun hHeld2=>?_);clear hK K hHeld;have hHeld:=hHeld2
      clear hHeld2;try simp only[Act.put,eD]
      refine wpAnyH_take (i:=13) (v:=?_) rfl (by kernel_rfl) (by kernel_rfl) (by kernel_rfl) (fun _ _ _ h=>h) (Or.inl ⟨by rfl,?_⟩) (by assumption) ?_;rotate_left
      ·(intro w9 hSw;(try dsimp only at hSw);go_simp)<;>with_reducible rfl
      try simp only[Act.put,eD]
      refine wpAnyH_take (i:=14) (v:=?_) rfl (by kernel_rfl) (by kernel_rfl) (by kernel_rfl) (fun _ _ _ h=>h) (Or.inl ⟨by rfl,?_⟩) (by assumption) ?_;rotate_left
      ·(intro w9 hSw;(try dsimp only at hSw);go_simp)<;>with_reducible rfl
      try simp only[Act.put,eD]
      refine wpAnyH_ready (rs:=[15]) (by kernel_rfl) (by simp) ?_;refine AllReadyH.cons rfl (fun K hK=>?_) AllReadyH.nil;go_simp;go_wp2_with (go_at_call 142;refine(eC _ _).mono ?_;rintro e wn ⟨rfl,hwn⟩;obtain rfl:=hwn.symm;clear hwn);exact⟨rfl,HB1.out.trans ((aB (aB HB1X.out b5) b6).mono (Nat.le_of_lt hs1)),.inr ⟨rfl,rfl⟩⟩
     have HN:=aA ((vX HS.out).trans (As HY1.out HZ1.out));go_wp2_with fail;have hS:=HS0.out
     go_region_held3 (fun x=>FE x wr.heap.size (.slice (qa t) (qs t).length (qc t)) (.slice (some ⟨rb,roff,none⟩) g (rc t)) rb (roff+j) (.slice (rad t j) QJ.length (rcp t j))) (first|with_reducible exact hS|with_reducible exact FE.below (FE.below hS b5) b6|with_reducible exact FE.below hS b5) (first|(go_at_call 28;refine HC1.out.mono ?_;rintro e w5 ⟨ya5,yc5,rfl,b5,hy5⟩)|(go_at_call 142;refine(eZ _ _).mono ?_;rintro e wn ⟨rfl,hwn⟩;obtain rfl:=hwn.symm;clear hwn)|(go_at_call 144;refine(HC2.out w5 ya5 yc5 (HS5.out.below b5).1 hy5.1).mono ?_;rintro e w6 ⟨za6,zc6,rfl,b6,hz6⟩))
     have hBx6:=aB (aB HBX.out b5) b6;have HBX6:=aA hBx6
     have h6:wr.heap.size≤(wr.alloc (.cells #[.slice (qa t) (qs t).length (qc t),.slice (some ⟨rb,roff,none⟩) g (rc t)] 194)).drew.heap.size:=by simp
     have h5:=b5.size;have hO6:gX wo.heap.size w6 za6 zc6 Z1:=hz6.low (by omega)
     clear h6 h5;have HO6:=aA hO6
     clear hS b5 b6 hy5 hz6 hBx6 hO6;go_wp2;go_roundw;case rel=>exact⟨t+1,Z1,za6,zc6,by omega,by go_num,HN.out,rfl,HBX6.out,HO6.out⟩
     case measure=>simp[intOf];omega
    ·have htl:¬(t:Int)<(M:Int):=by omega
     have hte:t=M:=by omega
     subst hte;have HXN:=aA (tF HX.out HS.out)
     have hBw:Below wo.heap.size wo wr:=aB HBr4.out hBi;have hAX:lE w1.heap.size wr (bK X j s) j u5 ad cp B:=(HA.out.below hBw).congr (fun i hi=>(if_neg (by omega)).symm)
     have hA6X:lE w1.heap.size wo (bK X j s) j u5 ad cp B:=HA.out.congr (fun i hi=>(if_neg (by omega)).symm);have hYj:bK X j s j=s:=if_pos rfl
     have HRND:Hid (∀(g0 cap0:Nat) (w5:World),w5.ownsRow w1.heap.size 41 1 (.slice (some ⟨g0,0,none⟩) (j+1) cap0) (j+1) (xH ad (fun i=>(bK X j s i).length) cp j++[.slice sa s.length sc])→(wr.alloc (.cells #[.slice sa s.length sc] 41)).grownBy w5 u5.ownBlock→(u5.ownBlock=some g0∨g0=(wr.alloc (.cells #[.slice sa s.length sc] 41)).heap.size)→g0<w5.heap.size→∃ad' cp' B',lE w1.heap.size w5 (bK X j s) (j+1) (.slice (some ⟨g0,0,none⟩) (j+1) cap0) ad' cp' B'):=fun g0 cap0 w5 h1 h2 h3 h4=>by
      refine lE.more hA6X hAX (a:=sa) (c:=sc) (by rw[hYj];exact HSO.out) ?_ ?_ ?_ h4
      ·rw[hYj];exact h2
      ·rw[hYj];exact h1
      ·rw[hYj];exact h3
     have HAX:=aA hAX;have HBW:=aA (aB HB4.out hBi)
     have hsw:w1.heap.size≤wr.heap.size:=HBW.out.size;clear hAX hA6X hYj hBw hBi;go_wp2_with (at_builtin;refine wpList_append_lies _ rfl (.tmp 49) (.tmp 51) 24 rfl w1.heap.size 41 i0 _ 1 24 Tryz.underlying24 hi0 hz0 hz1 hz2 rfl (by omega) _ j (xH ad (fun i=>(bK X j s i).length) cp j) rfl (HAX.out.row.alloc _) ⟨wr.heap.size,0,none⟩ 1 1 [.slice sa s.length sc] rfl rfl (World.news_of_block (heap_alloc_new wr _)) (gQ _ _ _) (by omega) hmax (by omega) (by simp;omega) _ rfl ?_;intro g1 cap1 w8 hown2 hgrow2 hat2 hlt2;have HRR:=aA (HRND.out g1 cap1 w8 hown2 hgrow2 hat2 hlt2);have HB8:=aA ((HBW.out.alloc HBW.out.size _).grown hgrow2 (by simp;omega) (fun k e=>(HAX.out.row.lt k e).1));clear hown2 hgrow2 hat2 hlt2);obtain⟨ad',cp',B',hA8⟩:=HRR.out;go_roundw;case rel=>exact⟨j+1,bK X j s,ad',cp',B',by omega,by go_num,HXN.out,HB8.out,hA8⟩
     case measure=>simp[intOf];omega
  ·have hjn:¬(j:Int)<(g:Int):=by omega
   have hje:j=g:=by omega
   subst hje;have hEs:E=some X:=by rw[←HE.out];exact HX.out
   subst hEs;obtain⟨qa',qc',Rb,etv,hO⟩:=HA.out.out (by omega);subst etv;have HOO:=aA hO
   clear hB hA hO;go_wp2;go_ret;exact⟨HB1.out.trans (HB.out.mono (Nat.le_of_lt hs1)),.inl ⟨X,qa',qc',ad,cp,w1.heap.size,Rb,B,rfl,rfl,Nat.le_of_lt hs1,HOO.out⟩⟩
def NH (w:World) (a:Option Addr) (n cap:Nat) (A:Nat→Option Addr) (C:Nat→Nat) (AD:Nat→Nat→Option Addr) (CP:Nat→Nat→Nat) (N:Nat→Nat) (L:Nat→Nat→Nat) (F:Nat→Nat→Nat→T):Prop:=
 n≤cap∧n*40≤140737488351232∧(n=0∨∃b off,a=some ⟨b,off,none⟩∧b<w.heap.size∧∀i,i<n→w.cell? ⟨b,off+i,none⟩=some (.slice (A i) (N i) (C i)))∧∀i,i<n→eH w (A i) (N i) (C i) (AD i) (L i) (CP i) (F i)
theorem NH.below {w w':World} {a:Option Addr} {n cap:Nat} {A:Nat→Option Addr} {C:Nat→Nat} {AD:Nat→Nat→Option Addr} {CP:Nat→Nat→Nat} {N:Nat→Nat} {L:Nat→Nat→Nat} {F:Nat→Nat→Nat→T} (h:NH w a n cap A C AD CP N L F) (hb:Below w.heap.size w w'):NH w' a n cap A C AD CP N L F:=by
 refine⟨h.1,h.2.1,?_,fun i hi=>(h.2.2.2 i hi).below hb⟩;rcases h.2.2.1 with h0|⟨b,off,he,hlt,hc⟩
 ·exact .inl h0
 ·exact .inr ⟨b,off,he,iZ hlt hb.size,fun i hi=>(hb.cell (p:=⟨b,off+i,none⟩) hlt).trans (hc i hi)⟩
theorem OI (w:World) (a a':Option Addr) (n cap cap':Nat) (A A':Nat→Option Addr) (C C':Nat→Nat) (AD AD':Nat→Nat→Option Addr) (CP CP':Nat→Nat→Nat) (N:Nat→Nat) (L:Nat→Nat→Nat) (F:Nat→Nat→Nat→T) (h:NH w a n cap A C AD CP N L F) (h':NH w a' n cap' A' C' AD' CP' N L F):Calls Tryz.prog 39 #[.slice a n cap,.slice a' n cap'] w fun r w'=>r= .returned (.bool true)∧Below w.heap.size w w':=by
 have hn:(n:Int)≤140737488351232:=by have:=h.2.1;omega
 have HH:=aA h;have HH':=aA h'
 clear h h';go_enter Tryz.func39,Tryz.ntmps39;go_wp2;go_loopw [5] (fun v wr=>∃i:Nat,i≤n∧v= .int .i64 (i:Int)∧Below w.heap.size w wr) (fun v _=>n-(intOf v).toNat);case atStart=>exact⟨0,Nat.zero_le _,rfl,bQ _ _⟩
 case round=>
  obtain⟨i,hi,rfl,hB⟩:=hrel;by_cases hlt:i<n
  ·rcases HH.out.2.2.1 with h0|⟨b,off,rfl,hblt,hcl⟩
   ·omega
   rcases HH'.out.2.2.1 with h0|⟨b',off',rfl,hblt',hcl'⟩
   ·omega
   have hil:(i:Int)<(n:Int):=by omega
   have hbr:b<wr.heap.size:=iZ hblt hB.size;have hbr':b'<wr.heap.size:=iZ hblt' hB.size
   have ne:=bR.there wr;have g0:wr.cell? ⟨b,off+i,none⟩=some (.slice (A i) (N i) (C i)):=(hB.cell (p:=⟨b,off+i,none⟩) hblt).trans (hcl i hlt)
   have g1:wr.cell? ⟨b',off'+i,none⟩=some (.slice (A' i) (N i) (C' i)):=(hB.cell (p:=⟨b',off'+i,none⟩) hblt').trans (hcl' i hlt);have s0:∀u:bR wr,u.1.cell? ⟨b,off+i,none⟩=some (.slice (A i) (N i) (C i)):=fun u=>(u.cell hbr).trans g0
   have s1:∀u:bR wr,u.1.cell? ⟨b',off'+i,none⟩=some (.slice (A' i) (N i) (C' i)):=fun u=>(u.cell hbr').trans g1;have HK:=aA ((HH.out.2.2.2 i hlt).below hB)
   have HK':=aA ((HH'.out.2.2.2 i hlt).below hB);have HB:=aA hB
   have hcall:∀u:bR wr,Calls Tryz.prog 12 #[.slice (A i) (N i) (C i),.slice (A' i) (N i) (C' i)] u.1 fun r w'=>r= .returned (.bool true)∧Below u.1.heap.size u.1 w':=fun u=>zK u.1 (A i) (A' i) (N i) (C i) (C' i) (AD i) (AD' i) (L i) (CP i) (CP' i) (F i) (HK.out.below u.2) (HK'.out.below u.2);clear hcl hcl' hB g0 g1;go_wp2_with fail;refine aF (by kernel_rfl) (by kernel_rfl) ?_;repeat(go_big_quiet_step (first|(go_at_call 12;exact aG (hcall _))|fail))
   refine wpQuiet_nil ?_;rintro _ ⟨v,rfl⟩;have HV:=aA v.2
   clear s0 s1 ne hcall;go_wp2;go_roundw;case rel=>exact⟨i+1,by omega,by go_num,aB HB.out HV.out⟩
   case measure=>simp[intOf];omega
  ·have hnl:¬(i:Int)<(n:Int):=by omega
   go_wp2;go_ret;exact⟨rfl,hB⟩
end Go.Proofs.YtelkehjdfcoeiaaGreat
