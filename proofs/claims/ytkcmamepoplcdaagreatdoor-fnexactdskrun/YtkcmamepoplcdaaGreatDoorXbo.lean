/-
  The model reads a line (DskRead).
-/
import Derived.Test.YtkcmamepoplcdaaGreatDoorXbj
import Derived.Test.YtkcmamepoplcdaaGreatDoorXbn
set_option maxHeartbeats 8000000
set_option maxRecDepth 100000
namespace Go.Proofs.YtkcmamepoplcdaaGreatDoor
open Go.RowKit Go.Deep
set_option linter.unusedVariables false
set_option linter.unusedSimpArgs false
theorem gF {u:World} {p:Addr} {v:Value} (h:u.cell? p=some v) (o:Obj):(u.alloc o).cell? p=some v:=by have hl:=EU _ _ h;rw[World.cell?_alloc_lt _ _ _ hl];exact h
theorem iC {u:World} {p:Addr} {v:Value} (h:u.cell? p=some v):u.drew.cell? p=some v:=h
def kd (K:Int) (k:Nat):Int:=if K<(k:Int)then K else 0
theorem IF {k:Nat} (h1:1≤k) (h8:k≤8):(#[.string ⟨#[]⟩,.string ⟨#[115,101,116]⟩,.string ⟨#[97,100,100]⟩,.string ⟨#[109,117,108]⟩,.string ⟨#[97,112,97,114,116]⟩,.string ⟨#[100,111]⟩,.string ⟨#[114,111,117,110,100]⟩,.string ⟨#[98,97,99,107]⟩,.string ⟨#[115,104,111,119]⟩]:Array Value)[k]? =some (.string ⟨(fN (k:Int)).toArray⟩):=by rcases(show k=1∨k=2∨k=3∨k=4∨k=5∨k=6∨k=7∨k=8 by omega)with rfl|rfl|rfl|rfl|rfl|rfl|rfl|rfl<;>rfl
theorem IG (u:World) {k:Nat} (h1:1≤k) (h8:k≤8):(u.alloc (.cells #[.string ⟨#[]⟩,.string ⟨#[115,101,116]⟩,.string ⟨#[97,100,100]⟩,.string ⟨#[109,117,108]⟩,.string ⟨#[97,112,97,114,116]⟩,.string ⟨#[100,111]⟩,.string ⟨#[114,111,117,110,100]⟩,.string ⟨#[98,97,99,107]⟩,.string ⟨#[115,104,111,119]⟩] 9)).cell? ⟨u.heap.size,k,none⟩=some (.string ⟨(fN (k:Int)).toArray⟩):=by rw[World.cell?_alloc_at _ _ _ _ rfl];exact IF h1 h8
theorem RM {l:kR} {s:List UInt8} (h:cD l s):sO s=lN l.k l.to l.a l.b l.P.length (lf l.P):=by have hk:=h.ok;unfold sO;rw[if_pos (by have:=hk.len;omega),GR hk]
theorem BV (k to a b:Int) (n:Nat) (f:Nat→T):(lN k to a b n f).length=1+dR k+(if k=1 then 1 else 0):=by
 have h3:dR k≤3:=by unfold dR;split<;>(try split)<;>(try split)<;>omega
 unfold lN AJ;rw[List.length_cons,List.length_append,List.length_take];have:(if k=1 then[cO n f]else([]:List (List UInt8))).length=if k=1 then 1 else 0:=by split<;>rfl
 rw[this];simp only[List.length_cons,List.length_nil];omega
theorem RJ {W:List (List UInt8)} (h:W.length=2):∃a b,W=[a,b]:=match W,h with|[a,b],_=>⟨a,b,rfl⟩
theorem NW {W:List (List UInt8)} (h:W.length=3):∃a b c,W=[a,b,c]:=match W,h with|[a,b,c],_=>⟨a,b,c,rfl⟩
theorem RK {W:List (List UInt8)} (h:W.length=4):∃a b c d,W=[a,b,c,d]:=match W,h with|[a,b,c,d],_=>⟨a,b,c,d,rfl⟩
theorem UA {l:kR} {s:List UInt8} {k:Int} {x0 x1:List UInt8} (h:cD l s) (hk:l.k=k) (h1:k≠1) (hn:dR k=1) (hW:[x0,x1]=lN k l.to l.a l.b l.P.length (lf l.P)):l=⟨k,jX x1,0,0,[]⟩∧0≤jX x1:=by
 have ho:=h.ok;have ha:=ho.a0.resolve_left (by rw[hk,hn];omega)
 have hb:=ho.b0.resolve_left (by rw[hk,hn];omega);have hp:=ho.p0.resolve_left (by rw[hk];exact h1)
 have e1:x1=[cQ l.to]:=by unfold lN AJ at hW;rw[hn,if_neg h1]at hW;simpa using(List.cons.inj hW).2
 have e2:=mT ho.to.1 ho.to.2;rw[e1,e2];obtain⟨k',to,a,b,P⟩:=l;simp only at hk ha hb hp;subst hk ha hb hp;exact⟨rfl,ho.to.1⟩
theorem UB {l:kR} {s:List UInt8} {k:Int} {x0 x1 x2:List UInt8} (h:cD l s) (hk:l.k=k) (h1:k≠1) (hn:dR k=2) (hW:[x0,x1,x2]=lN k l.to l.a l.b l.P.length (lf l.P)):l=⟨k,jX x1,jX x2,0,[]⟩∧0≤jX x1∧0≤jX x2:=by
 have ho:=h.ok;have hb:=ho.b0.resolve_left (by rw[hk,hn];omega)
 have hp:=ho.p0.resolve_left (by rw[hk];exact h1);have e1:x1=[cQ l.to]∧x2=[cQ l.a]:=by unfold lN AJ at hW;rw[hn,if_neg h1]at hW;simpa using(List.cons.inj hW).2
 have e2:=mT ho.to.1 ho.to.2;have e3:=mT ho.a.1 ho.a.2
 rw[e1.1,e1.2,e2,e3];obtain⟨k',to,a,b,P⟩:=l;simp only at hk hb hp;subst hk hb hp;exact⟨rfl,ho.to.1,ho.a.1⟩
theorem UC {l:kR} {s:List UInt8} {k:Int} {x0 x1 x2 x3:List UInt8} (h:cD l s) (hk:l.k=k) (h1:k≠1) (hn:dR k=3) (hW:[x0,x1,x2,x3]=lN k l.to l.a l.b l.P.length (lf l.P)):l=⟨k,jX x1,jX x2,jX x3,[]⟩∧0≤jX x1∧0≤jX x2∧0≤jX x3:=by
 have ho:=h.ok;have hp:=ho.p0.resolve_left (by rw[hk];exact h1)
 have e1:x1=[cQ l.to]∧x2=[cQ l.a]∧x3=[cQ l.b]:=by unfold lN AJ at hW;rw[hn,if_neg h1]at hW;simpa using(List.cons.inj hW).2
 have e2:=mT ho.to.1 ho.to.2;have e3:=mT ho.a.1 ho.a.2
 have e4:=mT ho.b.1 ho.b.2;rw[e1.1,e1.2.1,e1.2.2,e2,e3,e4];obtain⟨k',to,a,b,P⟩:=l;simp only at hk hp;subst hk hp;exact⟨rfl,ho.to.1,ho.a.1,ho.b.1⟩
theorem UD {l:kR} {s:List UInt8} {x0 x1 x2:List UInt8} (h:cD l s) (hk:l.k=1) (_:True) (hn:dR 1=1) (hW:[x0,x1,x2]=lN 1 l.to l.a l.b l.P.length (lf l.P)):l=⟨1,jX x1,0,0,(dV x2).1⟩∧0≤jX x1∧(dV x2).2=true:=by
 have ho:=h.ok;have ha:=ho.a0.resolve_left (by rw[hk,hn];omega)
 have hb:=ho.b0.resolve_left (by rw[hk,hn];omega);have e1:x1=[cQ l.to]∧x2=cO l.P.length (lf l.P):=by unfold lN AJ at hW;rw[hn,if_pos rfl]at hW;simpa using(List.cons.inj hW).2
 have e2:=mT ho.to.1 ho.to.2;have e3:=RL ho hk
 rw[e1.1,e1.2,e2,e3];obtain⟨k',to,a,b,P⟩:=l;simp only at hk ha hb;subst hk ha hb;exact⟨rfl,ho.to.1,rfl⟩
theorem FU (s:List UInt8) (hs:s.length≤1048576) (w:World):Calls Tryz.prog 8 #[.string ⟨s.toArray⟩] w (iB w s):=by
 have hB0:=aF w (.cells #[.int .i64 0,.int .i64 0,.int .i64 0,.int .i64 0,.slice none 0 0] 24);have HB0:=aA hB0
 have HV0:=aA (V5.box w 24 (.int .i64 0) (.int .i64 0) (.int .i64 0) (.int .i64 0) (.slice none 0 0));have HC:=aA (DJ s hs (w.alloc (.cells #[.int .i64 0,.int .i64 0,.int .i64 0,.int .i64 0,.slice none 0 0] 24)))
 have HLW:Hid (∀l,cD l s→sO s=lN l.k l.to l.a l.b l.P.length (lf l.P)):=aA (fun l h=>RM h);have HML:Hid (∀(i:Nat) (x:List UInt8),(sO s)[i]? =some x→x.length≤420):=aA (fun i x h=>NI h)
 have HW0:=aA (QJ s);obtain⟨W,hW⟩:∃W,sO s=W:=⟨_,rfl⟩
 rw[hW]at HC HLW HML HW0;have hNb:W.length≤421:=by rw[←hW];exact QI s
 obtain⟨N,hN⟩:∃N,W.length=N:=⟨_,rfl⟩
 rw[hN]at HC hNb;have HN:=aA hN
 have HNO:Hid (∀w',(∀l,cD l s→False)→Below w.heap.size w w'→iB w s (.returned (.tuple #[.agg #[.int .i64 0,.int .i64 0,.int .i64 0,.int .i64 0,.slice none 0 0],.bool false])) w'):=aA (fun w' h hb=>yC h hb);have HYES:Hid (∀(k to a b:Int) (P:List T) (w':World) (pa:Option Addr) (cap:Nat),cD ⟨k,to,a,b,P⟩ s→Below w.heap.size w w'→iJ w.heap.size w' pa cap P→iB w s (.returned (.tuple #[.agg #[.int .i64 k,.int .i64 to,.int .i64 a,.int .i64 b,.slice pa P.length cap],.bool true])) w'):=aA (fun k to a b P w' pa cap h hb ho=>lT h hb ho)
 have HYES0:Hid (∀(k to a b:Int) (w':World),cD ⟨k,to,a,b,[]⟩ s→Below w.heap.size w w'→iB w s (.returned (.tuple #[.agg #[.int .i64 k,.int .i64 to,.int .i64 a,.int .i64 b,.slice none 0 0],.bool true])) w'):=aA (fun k to a b w' h hb=>lT h hb (mP _ _));obtain⟨PS,hPS⟩:∃Q:Ending→World→Prop,iB w s=Q:=⟨_,rfl⟩
 rw[hPS]at HNO HYES HYES0⊢;have HEND:Hid (∀(V:World) (B:Below w.heap.size w V) (v0 v1 v2 v3 v4:Value),Below w.heap.size w (((((V.setCell ⟨w.heap.size,0,none⟩ v0).setCell ⟨w.heap.size,1,none⟩ v1).setCell ⟨w.heap.size,2,none⟩ v2).setCell ⟨w.heap.size,3,none⟩ v3).setCell ⟨w.heap.size,4,none⟩ v4)):=aA (fun V B v0 v1 v2 v3 v4=>((((B.setCell (Nat.le_refl _) _).setCell (Nat.le_refl _) _).setCell (Nat.le_refl _) _).setCell (Nat.le_refl _) _).setCell (Nat.le_refl _) _)
 clear hW hN hPS hB0;go_enter Tryz.func8,Tryz.ntmps8;go_wp2_with fail;refine HC.out.mono ?_;rintro r w1 ⟨g,cp,rfl,how,hb1⟩;have HOW:=aA how
 have HB1:=aA (aC HB0.out hb1);have HV1:=aA (HV0.out.below hb1)
 have hlt1:w.heap.size<w1.heap.size:=eB (by simp) hb1.size;clear how hb1 HC HB0 HV0;obtain⟨K,hK⟩:∃K:Int,K=(if N=0 then 0 else kn (W.getD 0 [])):=⟨_,rfl⟩
 have hKb:0≤K∧K≤8:=by rw[hK];split<;>first|omega|exact GI _
 have HK:=aA hK;clear hK;go_wp2;go_loopw [6,5] (fun v6 v5 wr=>∃(k:Nat) (kx:Int),1≤k∧k≤9∧v6= .int .i64 (k:Int)∧v5= .int .i64 kx∧Hid (kx=kd K k)∧Hid (Below w1.heap.size w1 wr)) (fun v6 _ _=>9-(intOf v6).toNat);case atStart=>exact⟨1,0,Nat.le_refl _,by omega,rfl,rfl,aA (by unfold kd;split<;>omega),aA (aD _ _)⟩
 case round=>
  obtain⟨k,kx,hk1,hk9,rfl,rfl,HKX,HI⟩:=hrel;by_cases hN0:N=0
  ·have hng:¬(0:Int)<(N:Int):=by omega
   have hkx:kx=0:=by rw[HKX.out];unfold kd;have:=HK.out;rw[if_pos hN0]at this;split<;>omega
   subst hkx;have hk8:(k:Int)≤8∨¬(k:Int)≤8:=by omega
   have hBR:=aA (aC HB1.out HI.out);have HVR:=aA (HV1.out.below HI.out)
   obtain⟨⟨c0,c1,c2,c3,c4⟩,cz⟩:=HVR.out
   have HBAD:Hid (∀l,cD l s→False):=aA (fun l hl=>by
    have e:=HLW.out l hl;have e2:=congrArg List.length e
    rw[HN.out,BV]at e2
    omega)
   rcases hk8 with hk8|hk8
   all_goals(
    go_wp2;refine bC (v:=.tuple #[.agg #[.int .i64 0,.int .i64 0,.int .i64 0,.int .i64 0,.slice none 0 0],.bool false]) (by simp[results,Tryz.results8,go_sem, *]) rfl ?_
    with_reducible exact HNO.out _ HBAD.out (HEND.out _ hBR.out _ _ _ _ _))
  have hNp:(0:Int)<(N:Int):=by omega
  obtain⟨w0,hw0⟩:∃x,W[0]? =some x:=⟨_,List.getElem?_eq_getElem (by rw[HN.out];omega)⟩
  have HW0':=aA hw0;have hKw:K=kn w0:=by rw[HK.out,if_neg hN0,List.getD_eq_getElem?_getD,hw0];rfl
  have HKW:=aA hKw;have hOW:=aK HOW.out HI.out
  have hc0:=dP hOW hw0;have HOWr:=aA hOW
  clear hw0 hKw hOW;by_cases hk8:k≤8
  ·have hk8I:(k:Int)≤8:=by omega
   have hk9I:(k:Int)<9:=by omega
   have hkI:(1:Int)≤(k:Int):=by omega
   have hnk:=fun u:World=>IG u hk1 hk8;have hnm:=IF hk1 hk8
   have HC0:=aA hc0;have HNA:=aA (fun u=>kK u)
   obtain⟨NK,hNK⟩:∃x,fN (k:Int)=x:=⟨_,rfl⟩
   have HNK:=aA hNK;rw[hNK]at hnm;simp only[hNK]at hnk;clear hNK;go_wp2_with fail;rename_i K0 hK0;refine wp_region_held_drew (S:=fun u=>u.cell? ⟨g,0,none⟩=some (.string ⟨w0.toArray⟩)) (by kernel_rfl) (by first|with_reducible exact HC0.out|with_reducible exact iC HC0.out|with_reducible exact gF HC0.out _|with_reducible exact iC (gF HC0.out _)|with_reducible exact gF (iC HC0.out) _) (fun hHeld=>?_);refine wpAnyH_take (i:=1) (v:=?_) rfl (by kernel_rfl) (by kernel_rfl) (by kernel_rfl) (fun _ _ _ h=>h) (Or.inl ⟨by rfl,?_⟩) (by assumption) ?_;rotate_left
   ·(intro w9 hSw;(try dsimp only at hSw);go_simp)<;>with_reducible rfl
   try simp only[Act.put,aI]
   refine wpAnyH_take (i:=4) (v:=?_) rfl (by kernel_rfl) (by kernel_rfl) (by kernel_rfl) (fun _ _ _ h=>h) (Or.inl ⟨by rfl,?_⟩) (by assumption) ?_;rotate_left
   ·(intro w9 hSw;(try dsimp only at hSw);go_simp)<;>with_reducible rfl
   try simp only[Act.put,aI]
   refine wpAnyH_take (i:=5) (v:=?_) rfl (by kernel_rfl) (by kernel_rfl) (by kernel_rfl) (fun _ _ _ h=>h) (Or.inl ⟨by rfl,?_⟩) (by assumption) ?_;rotate_left
   ·(intro w9 hSw;(try dsimp only at hSw);go_simp)<;>with_reducible rfl
   try simp only[Act.put,aI]
   refine wpAnyH_take (i:=6) (v:=?_) rfl (by kernel_rfl) (by kernel_rfl) (by kernel_rfl) (fun _ _ _ h=>h) (Or.inl ⟨by rfl,?_⟩) (by assumption) ?_;rotate_left
   ·(intro w9 hSw;(try dsimp only at hSw);go_simp)<;>with_reducible rfl
   try simp only[Act.put,aI]
   refine wpAnyH_ready (rs:=[0]) (by kernel_rfl) (by simp) ?_;refine AllReadyH.cons rfl (fun K hK=>?_) AllReadyH.nil;go_simp;go_wp2_with (go_at_call 32;refine(HNA.out _).mono ?_;rintro r w' ⟨rfl,hw'⟩;rw[hw'];clear hw');refine hK.out _ _ (by first|with_reducible exact HC0.out|with_reducible exact iC HC0.out|with_reducible exact gF HC0.out _|with_reducible exact iC (gF HC0.out _)|with_reducible exact gF (iC HC0.out) _) (fun hHeld2=>?_);clear hK K hHeld;have hHeld:=hHeld2
   clear hHeld2;try simp only[Act.put,aI]
   refine wpAnyH_take (i:=2) (v:=?_) rfl (by kernel_rfl) (by kernel_rfl) (by kernel_rfl) (fun _ _ _ h=>h) (Or.inl ⟨by rfl,?_⟩) (by assumption) ?_;rotate_left
   ·(intro w9 hSw;(try dsimp only at hSw);go_simp)<;>with_reducible rfl
   try simp only[Act.put,aI]
   refine wpAnyH_ready (rs:=[3]) (by kernel_rfl) (by simp) ?_;refine AllReadyH.cons rfl (fun K hK=>?_) AllReadyH.nil;go_simp;refine hK.out _ _ (by first|with_reducible exact HC0.out|with_reducible exact iC HC0.out|with_reducible exact gF HC0.out _|with_reducible exact iC (gF HC0.out _)|with_reducible exact gF (iC HC0.out) _) (fun hHeld2=>?_);clear hK K hHeld;have hHeld:=hHeld2
   clear hHeld2;try simp only[Act.put,aI]
   refine wpAnyH_take (i:=7) (v:=?_) rfl (by kernel_rfl) (by kernel_rfl) (by kernel_rfl) (fun _ _ _ h=>h) (Or.inl ⟨by rfl,?_⟩) (by assumption) ?_;rotate_left
   ·(intro w9 hSw;(try dsimp only at hSw);go_simp)<;>with_reducible rfl
   try simp only[Act.put,aI]
   refine wpAnyH_done (by kernel_rfl) ?_ _;rotate_left;go_wp2
   ·rename_i e;have e2:NK=w0:=eq_of_beq e
    have hKk:K=(k:Int):=by rw[HKW.out,←e2,←HNK.out];exact rH ⟨by omega,by omega⟩
    have hkd:(k:Int)=kd K (k+1):=by unfold kd;rw[if_pos (by omega)];omega
    have HKD:=aA hkd;clear hkd hKk e e2;go_roundw;case rel=>exact⟨k+1,_,by omega,by omega,by go_num,rfl,HKD,aA (by repeat(first|with_reducible exact HI.out|with_reducible refine lE ?_|with_reducible refine aP ?_))⟩
    case measure=>simp[intOf];omega
   ·rename_i e;have e2:NK≠w0:=ne_of_beq_false e
    have hKk:K≠(k:Int):=fun q=>e2 (by rw[←HNK.out,←q,HKW.out];exact ID (by rw[←HKW.out];omega));have hkd:kx=kd K (k+1):=by rw[HKX.out];unfold kd;split<;>split<;>omega
    have HKD:=aA hkd;clear hkd hKk e e2;go_roundw;case rel=>exact⟨k+1,_,by omega,by omega,by go_num,rfl,HKD,aA (by repeat(first|with_reducible exact HI.out|with_reducible refine lE ?_|with_reducible refine aP ?_))⟩
    case measure=>simp[intOf];omega
  have hk9':k=9:=by omega
  have hkx:kx=K:=by rw[HKX.out];unfold kd;rw[if_pos (by omega)]
  subst hk9' hkx;have HBR:=aA (aC HB1.out HI.out)
  have HVR:=aA (HV1.out.below HI.out);have hltr:w.heap.size<wr.heap.size:=eB hlt1 HI.out.size
  clear HKX HK HI HOW HB1 HV1 hk1 hk9 hk8 hlt1 hc0
  have HS0:Hid (kx≠0→s≠[]):=aA (fun q e=>by
   rcases HW0.out with z|z
   ·rw[z]at HN;exact hN0 HN.out.symm
   ·rw[e]at z;have z2:=HW0'.out
    rw[z]at z2;have z3:w0=[]:=by simpa[dK]using z2.symm
    rw[HKW.out,z3]at q
    exact q (by decide))
  have HKL:Hid (∀l,cD l s→l.k=kx∧N=1+dR kx+(if kx=1 then 1 else 0)∧W=lN kx l.to l.a l.b l.P.length (lf l.P)):=aA (fun l hl=>by
   have e:=HLW.out l hl;have z:=HW0'.out
   rw[e]at z;have z2:fN l.k=w0:=by simpa[lN]using z
   have z3:l.k=kx:=by rw[HKW.out,←z2,rH hl.ok.k]
   refine⟨z3,?_,by rw[←z3];exact e⟩
   rw[←HN.out,e,BV,z3])
  by_cases hK0:kx=0
  ·subst hK0;have HBAD:Hid (∀l,cD l s→False):=aA (fun l hl=>by have:=(HKL.out l hl).1;have:=hl.ok.k;omega)
   obtain⟨⟨c0,c1,c2,c3,c4⟩,cz⟩:=HVR.out;go_wp2;refine bC (v:=.tuple #[.agg #[.int .i64 0,.int .i64 0,.int .i64 0,.int .i64 0,.slice none 0 0],.bool false]) (by simp[results,Tryz.results8,go_sem, *]) rfl ?_;with_reducible exact HNO.out _ HBAD.out (HEND.out _ HBR.out _ _ _ _ _)
  rcases(show kx=1∨kx=8∨(kx=6∨kx=7)∨(kx=2∨kx=3∨kx=4∨kx=5) by omega)with hq|hq|hq|hq
  ·subst hq;have hnm:dR 1=1:=rfl
   have HMN:Hid (∀u,Calls Tryz.prog 33 #[.int .i64 1] u fun e w'=>e= .returned (.int .i64 1)∧w'=u):=aA (fun u=>by have q:=dX 1 (by omega) u;rw[hnm]at q;exact q);have k1b:(1==(1:Int))=true:=by simp
   have k0b:(1==(0:Int))=false:=by simp
   by_cases hNl:N=3
   ·subst hNl;obtain⟨x0,x1,x2,hWx⟩:∃x0 x1 x2,W=[x0,x1,x2]:=NW HN.out;subst hWx;have hx1:x1.length≤1048576:=by have:=HML.out 1 x1 rfl;omega
    have hc1:=dP HOWr.out (i:=1) (l:=x1) rfl;have hx2:x2.length≤1048576:=by have:=HML.out 2 x2 rfl;omega
    have hc2:=dP HOWr.out (i:=2) (l:=x2) rfl;have hd2:=fun o:Obj=>gF hc2 o
    have HL:Hid (∀l,cD l s→l=⟨1,jX x1,0,0,(dV x2).1⟩∧0≤jX x1∧(dV x2).2=true):=aA (fun l hl=>UD hl (HKL.out l hl).1 (by first|trivial|omega) hnm (HKL.out l hl).2.2);obtain⟨v1,hv1⟩:∃v,jX x1=v:=⟨_,rfl⟩
    have HSL:Hid ((∀u:World,Calls Tryz.prog 34 #[.string ⟨x1.toArray⟩] u fun e w'=>e= .returned (.int .i64 v1)∧w'=u)):=aA (fun u=>by have q:=iT x1 hx1 u;rw[hv1]at q;exact q);rw[hv1]at HL;clear hv1;have SL1:=HSL.out
    have SL1:=aA SL1;clear HSL HKL HKW HW0' HW0 HLW HML hnm;have HVB:=aA (HVR.out.below (aF wr (.cells #[.int .i64 1,.int .i64 v1,.int .i64 0,.int .i64 0,.slice none 0 0] 24)))
    have HBB:=aA (HBR.out.alloc HBR.out.size (.cells #[.int .i64 1,.int .i64 v1,.int .i64 0,.int .i64 0,.slice none 0 0] 24));obtain⟨⟨c0,c1,c2,c3,c4⟩,cz⟩:=HVR.out;have hne:w.heap.size≠wr.heap.size:=by omega
    have hne':wr.heap.size≠w.heap.size:=by omega
    by_cases n1:v1<0
    ·have HBAD:Hid (∀l,cD l s→False):=aA (fun l hl=>by have q:=(HL.out l hl).2;omega);have m1:¬0≤v1:=by omega
     have HPR:=aA (yS x2 hx2 (wr.alloc (.cells #[.int .i64 1,.int .i64 v1,.int .i64 0,.int .i64 0,.slice none 0 0] 24)));have HB8:=aA (V5.box wr 24 (.int .i64 1) (.int .i64 v1) (.int .i64 0) (.int .i64 0) (.slice none 0 0))
     obtain⟨q,hq⟩:∃q,dV x2=q:=⟨_,rfl⟩
     rw[hq]at HPR;clear hq c0 c1 c2 c3 c4 cz;go_wp2_with (first|(go_at_call 34;first|(with_reducible refine(SL1.out _).mono ?_;rintro e w' ⟨rfl,hw'⟩;obtain rfl:=hw'.symm;clear hw'))|(go_at_call 33;with_reducible refine(HMN.out _).mono ?_;rintro e w' ⟨rfl,hw'⟩;obtain rfl:=hw'.symm;clear hw'));with_reducible refine HPR.out.mono ?_
     rintro r w5 ⟨pa,pc,rfl,hb5,hout⟩;have HV5:=aA (HVB.out.below hb5)
     have HB5:=aA (aC HBB.out hb5);obtain⟨⟨c0,c1,c2,c3,c4⟩,cz⟩:=HV5.out;obtain⟨⟨d0,d1,d2,d3,d4⟩,dz⟩:=HB8.out.below hb5;have hne5:wr.heap.size<w5.heap.size:=eB (by simp) hb5.size
     clear hb5 hout HPR HB8 HVB HBB;go_wp2;refine bC (v:=.tuple #[.agg #[.int .i64 0,.int .i64 0,.int .i64 0,.int .i64 0,.slice none 0 0],.bool false]) (by simp[results,Tryz.results8,go_sem, *]) rfl ?_;with_reducible exact HNO.out _ HBAD.out (HEND.out _ (HB5.out.setCell (p:=⟨wr.heap.size,4,none⟩) (show w.heap.size≤wr.heap.size by omega) _) _ _ _ _ _)
    have m1:0≤v1:=by omega
    clear n1;have HPR:=aA (yS x2 hx2 (wr.alloc (.cells #[.int .i64 1,.int .i64 v1,.int .i64 0,.int .i64 0,.slice none 0 0] 24)))
    have HB8:=aA (V5.box wr 24 (.int .i64 1) (.int .i64 v1) (.int .i64 0) (.int .i64 0) (.slice none 0 0));obtain⟨q,hq⟩:∃q,dV x2=q:=⟨_,rfl⟩
    rw[hq]at HPR HL;obtain⟨QP,fine⟩:=q;simp only at HPR HL;clear hq c0 c1 c2 c3 c4 cz;go_wp2_with (first|(go_at_call 34;first|(with_reducible refine(SL1.out _).mono ?_;rintro e w' ⟨rfl,hw'⟩;obtain rfl:=hw'.symm;clear hw'))|(go_at_call 33;with_reducible refine(HMN.out _).mono ?_;rintro e w' ⟨rfl,hw'⟩;obtain rfl:=hw'.symm;clear hw'));with_reducible refine HPR.out.mono ?_
    rintro r w5 ⟨pa,pc,rfl,hb5,hout⟩;have HV5:=aA (HVB.out.below hb5)
    have HB5:=aA (aC HBB.out hb5);have HD5:=aA (HB8.out.below hb5)
    have hne5:wr.heap.size<w5.heap.size:=eB (by simp) hb5.size;have HS5:=aA (nW (lo':=wr.heap.size+1) hout (by simp))
    have HOUT:=aA hout;clear hb5 hout HPR HB8 HVB HBB;cases fine
    ·have HBAD:Hid (∀l,cD l s→False):=aA (fun l hl=>by have q:=(HL.out l hl).2.2;cases q);obtain⟨⟨c0,c1,c2,c3,c4⟩,cz⟩:=HV5.out;obtain⟨⟨d0,d1,d2,d3,d4⟩,dz⟩:=HD5.out;go_wp2;refine bC (v:=.tuple #[.agg #[.int .i64 0,.int .i64 0,.int .i64 0,.int .i64 0,.slice none 0 0],.bool false]) (by simp[results,Tryz.results8,go_sem, *]) rfl ?_;with_reducible exact HNO.out _ HBAD.out (HEND.out _ (HB5.out.setCell (p:=⟨wr.heap.size,4,none⟩) (show w.heap.size≤wr.heap.size by omega) _) _ _ _ _ _)
    have HVW:=aA (HV5.out.other (b':=wr.heap.size) (k:=4) hne' (.slice pa QP.length pc));have HDW:=aA (HD5.out.set4 (.slice pa QP.length pc))
    have HBW:=aA (HB5.out.setCell (B:=w.heap.size) (p:=⟨wr.heap.size,4,none⟩) (show w.heap.size≤wr.heap.size by omega) (.slice pa QP.length pc));have HOW2:=aA (lW HS5.out (k:=4) (v:=.slice pa QP.length pc) (b:=wr.heap.size) (by omega))
    have HTX:=aA (dM 1 v1 0 0 pa QP.length pc (lf QP) (w5.setCell ⟨wr.heap.size,4,none⟩ (.slice pa QP.length pc)) HOW2.out.1);obtain⟨X,hX⟩:∃X,dW 1 v1 0 0 QP.length (lf QP)=X:=⟨_,rfl⟩
    rw[hX]at HTX;have HXX:Hid ((⟨1,v1,0,0,QP⟩:kR).txt=X):=aA hX
    clear hX;obtain⟨⟨d0,d1,d2,d3,d4⟩,dz⟩:=HD5.out;obtain⟨⟨e0,e1,e2,e3,e4⟩,ez⟩:=HDW.out;go_wp2_with fail;with_reducible refine HTX.out.mono ?_
    rintro r w6 ⟨rfl,hb6⟩;have HB6:=aA (aC HBW.out hb6)
    have HO6:=aA (HOW2.out.below hb6);clear d0 d1 d2 d3 d4 dz e0 e1 e2 e3 e4 ez;obtain⟨⟨c0,c1,c2,c3,c4⟩,cz⟩:=HVW.out.below hb6;obtain⟨⟨d0,d1,d2,d3,d4⟩,dz⟩:=HDW.out.below hb6;clear hb6 HTX HVW HDW HBW HOW2;by_cases q:X=s
    ·have HIS:Hid (cD ⟨1,v1,0,0,QP⟩ s):=aA ⟨HXX.out.trans q,HS0.out (by omega)⟩;have qb:(X==s)=true:=by rw[q];exact beq_self_eq_true _
     clear q;go_wp2;refine bC (v:=.tuple #[.agg #[.int .i64 1,.int .i64 v1,.int .i64 0,.int .i64 0,.slice pa QP.length pc],.bool true]) (by simp[results,Tryz.results8,go_sem, *]) rfl ?_;with_reducible exact HYES.out _ _ _ _ _ _ _ _ HIS.out (HEND.out _ HB6.out _ _ _ _ _) (nW (rQ HO6.out (by omega) _ _ _ _ _) (by omega))
    ·have HBAD:Hid (∀l,cD l s→False):=aA (fun l hl=>q (by have z:=(HL.out l hl).1;rw[←HXX.out,←z];exact hl.1));have qb:(X==s)=false:=beq_eq_false_iff_ne.2 q
     clear q;go_wp2;refine bC (v:=.tuple #[.agg #[.int .i64 0,.int .i64 0,.int .i64 0,.int .i64 0,.slice none 0 0],.bool false]) (by simp[results,Tryz.results8,go_sem, *]) rfl ?_;with_reducible exact HNO.out _ HBAD.out (HEND.out _ HB6.out _ _ _ _ _)
   ·have nb:((N:Int)!=3)=true:=by simp;omega
    have HBAD:Hid (∀l,cD l s→False):=aA (fun l hl=>by have q:=(HKL.out l hl).2.1;rw[hnm]at q;split at q<;>omega);obtain⟨⟨c0,c1,c2,c3,c4⟩,cz⟩:=HVR.out;go_wp2_with (go_at_call 33;with_reducible refine(HMN.out _).mono ?_;rintro e w' ⟨rfl,hw'⟩;obtain rfl:=hw'.symm;clear hw');refine bC (v:=.tuple #[.agg #[.int .i64 0,.int .i64 0,.int .i64 0,.int .i64 0,.slice none 0 0],.bool false]) (by simp[results,Tryz.results8,go_sem, *]) rfl ?_;with_reducible exact HNO.out _ HBAD.out (HEND.out _ HBR.out _ _ _ _ _)
  ·subst hq;have hnm:dR 8=1:=rfl
   have HMN:Hid (∀u,Calls Tryz.prog 33 #[.int .i64 8] u fun e w'=>e= .returned (.int .i64 1)∧w'=u):=aA (fun u=>by have q:=dX 8 (by omega) u;rw[hnm]at q;exact q);have k1b:(8==(1:Int))=false:=by simp
   have k0b:(8==(0:Int))=false:=by simp
   by_cases hNl:N=2
   ·subst hNl;obtain⟨x0,x1,hWx⟩:∃x0 x1,W=[x0,x1]:=RJ HN.out;subst hWx;have hx1:x1.length≤1048576:=by have:=HML.out 1 x1 rfl;omega
    have hc1:=dP HOWr.out (i:=1) (l:=x1) rfl;have HL:Hid (∀l,cD l s→l=⟨8,jX x1,0,0,[]⟩∧0≤jX x1):=aA (fun l hl=>UA hl (HKL.out l hl).1 (by first|trivial|omega) hnm (HKL.out l hl).2.2)
    obtain⟨v1,hv1⟩:∃v,jX x1=v:=⟨_,rfl⟩
    have HSL:Hid ((∀u:World,Calls Tryz.prog 34 #[.string ⟨x1.toArray⟩] u fun e w'=>e= .returned (.int .i64 v1)∧w'=u)):=aA (fun u=>by have q:=iT x1 hx1 u;rw[hv1]at q;exact q);rw[hv1]at HL;clear hv1;have SL1:=HSL.out
    have SL1:=aA SL1;clear HSL HKL HKW HW0' HW0 HLW HML hnm;have HVB:=aA (HVR.out.below (aF wr (.cells #[.int .i64 8,.int .i64 v1,.int .i64 0,.int .i64 0,.slice none 0 0] 24)))
    have HBB:=aA (HBR.out.alloc HBR.out.size (.cells #[.int .i64 8,.int .i64 v1,.int .i64 0,.int .i64 0,.slice none 0 0] 24));obtain⟨⟨c0,c1,c2,c3,c4⟩,cz⟩:=HVR.out;have hne:w.heap.size≠wr.heap.size:=by omega
    have hne':wr.heap.size≠w.heap.size:=by omega
    by_cases n1:v1<0
    ·have HBAD:Hid (∀l,cD l s→False):=aA (fun l hl=>by have q:=(HL.out l hl).2;omega);have m1:¬0≤v1:=by omega
     go_wp2_with (first|(go_at_call 34;first|(with_reducible refine(SL1.out _).mono ?_;rintro e w' ⟨rfl,hw'⟩;obtain rfl:=hw'.symm;clear hw'))|(go_at_call 33;with_reducible refine(HMN.out _).mono ?_;rintro e w' ⟨rfl,hw'⟩;obtain rfl:=hw'.symm;clear hw'));refine bC (v:=.tuple #[.agg #[.int .i64 0,.int .i64 0,.int .i64 0,.int .i64 0,.slice none 0 0],.bool false]) (by simp[results,Tryz.results8,go_sem, *]) rfl ?_;with_reducible exact HNO.out _ HBAD.out ((HEND.out _ HBR.out _ _ _ _ _).alloc (HEND.out _ HBR.out _ _ _ _ _).size _)
    have m1:0≤v1:=by omega
    clear n1;have HVW:=HVB
    have HDW:=aA (V5.box wr 24 (.int .i64 8) (.int .i64 v1) (.int .i64 0) (.int .i64 0) (.slice none 0 0));have HBW:=HBB
    have HOW2:=aA (mP w.heap.size (wr.alloc (.cells #[.int .i64 8,.int .i64 v1,.int .i64 0,.int .i64 0,.slice none 0 0] 24)));clear c0 c1 c2 c3 c4 cz;have HTX:=aA (dM 8 v1 0 0 none 0 0 (lf []) (wr.alloc (.cells #[.int .i64 8,.int .i64 v1,.int .i64 0,.int .i64 0,.slice none 0 0] 24)) HOW2.out.1)
    obtain⟨X,hX⟩:∃X,dW 8 v1 0 0 0 (lf [])=X:=⟨_,rfl⟩
    rw[hX]at HTX;have HXX:Hid ((⟨8,v1,0,0,[]⟩:kR).txt=X):=aA hX
    clear hX;go_wp2_with (first|(go_at_call 34;first|(with_reducible refine(SL1.out _).mono ?_;rintro e w' ⟨rfl,hw'⟩;obtain rfl:=hw'.symm;clear hw'))|(go_at_call 33;with_reducible refine(HMN.out _).mono ?_;rintro e w' ⟨rfl,hw'⟩;obtain rfl:=hw'.symm;clear hw'));with_reducible refine HTX.out.mono ?_
    rintro r w6 ⟨rfl,hb6⟩;have HB6:=aA (aC HBW.out hb6)
    have HO6:=aA (HOW2.out.below hb6);obtain⟨⟨c0,c1,c2,c3,c4⟩,cz⟩:=HVW.out.below hb6;obtain⟨⟨d0,d1,d2,d3,d4⟩,dz⟩:=HDW.out.below hb6;clear hb6 HTX HVW HDW HBW HOW2;by_cases q:X=s
    ·have HIS:Hid (cD ⟨8,v1,0,0,[]⟩ s):=aA ⟨HXX.out.trans q,HS0.out (by omega)⟩;have qb:(X==s)=true:=by rw[q];exact beq_self_eq_true _
     clear q;go_wp2;refine bC (v:=.tuple #[.agg #[.int .i64 8,.int .i64 v1,.int .i64 0,.int .i64 0,.slice none 0 0],.bool true]) (by simp[results,Tryz.results8,go_sem, *]) rfl ?_;with_reducible exact HYES0.out _ _ _ _ _ HIS.out (HEND.out _ HB6.out _ _ _ _ _)
    ·have HBAD:Hid (∀l,cD l s→False):=aA (fun l hl=>q (by have z:=(HL.out l hl).1;rw[←HXX.out,←z];exact hl.1));have qb:(X==s)=false:=beq_eq_false_iff_ne.2 q
     clear q;go_wp2;refine bC (v:=.tuple #[.agg #[.int .i64 0,.int .i64 0,.int .i64 0,.int .i64 0,.slice none 0 0],.bool false]) (by simp[results,Tryz.results8,go_sem, *]) rfl ?_;with_reducible exact HNO.out _ HBAD.out (HEND.out _ HB6.out _ _ _ _ _)
   ·have nb:((N:Int)!=2)=true:=by simp;omega
    have HBAD:Hid (∀l,cD l s→False):=aA (fun l hl=>by have q:=(HKL.out l hl).2.1;rw[hnm]at q;split at q<;>omega);obtain⟨⟨c0,c1,c2,c3,c4⟩,cz⟩:=HVR.out;go_wp2_with (go_at_call 33;with_reducible refine(HMN.out _).mono ?_;rintro e w' ⟨rfl,hw'⟩;obtain rfl:=hw'.symm;clear hw');refine bC (v:=.tuple #[.agg #[.int .i64 0,.int .i64 0,.int .i64 0,.int .i64 0,.slice none 0 0],.bool false]) (by simp[results,Tryz.results8,go_sem, *]) rfl ?_;with_reducible exact HNO.out _ HBAD.out (HEND.out _ HBR.out _ _ _ _ _)
  ·have hnm:dR kx=2:=by rcases hq with rfl|rfl<;>rfl
   have HMN:Hid (∀u,Calls Tryz.prog 33 #[.int .i64 kx] u fun e w'=>e= .returned (.int .i64 2)∧w'=u):=aA (fun u=>by have q:=dX kx (by omega) u;rw[hnm]at q;exact q);have k1b:(kx==(1:Int))=false:=by simp;omega
   have k0b:(kx==(0:Int))=false:=by simp;omega
   by_cases hNl:N=3
   ·subst hNl;obtain⟨x0,x1,x2,hWx⟩:∃x0 x1 x2,W=[x0,x1,x2]:=NW HN.out;subst hWx;have hx1:x1.length≤1048576:=by have:=HML.out 1 x1 rfl;omega
    have hc1:=dP HOWr.out (i:=1) (l:=x1) rfl;have hx2:x2.length≤1048576:=by have:=HML.out 2 x2 rfl;omega
    have hc2:=dP HOWr.out (i:=2) (l:=x2) rfl;have hd2:=fun o:Obj=>gF hc2 o
    have HL:Hid (∀l,cD l s→l=⟨kx,jX x1,jX x2,0,[]⟩∧0≤jX x1∧0≤jX x2):=aA (fun l hl=>UB hl (HKL.out l hl).1 (by first|trivial|omega) hnm (HKL.out l hl).2.2);obtain⟨v1,hv1⟩:∃v,jX x1=v:=⟨_,rfl⟩
    obtain⟨v2,hv2⟩:∃v,jX x2=v:=⟨_,rfl⟩
    have HSL:Hid ((∀u:World,Calls Tryz.prog 34 #[.string ⟨x1.toArray⟩] u fun e w'=>e= .returned (.int .i64 v1)∧w'=u)∧(∀u:World,Calls Tryz.prog 34 #[.string ⟨x2.toArray⟩] u fun e w'=>e= .returned (.int .i64 v2)∧w'=u)):=aA ⟨fun u=>by have q:=iT x1 hx1 u;rw[hv1]at q;exact q,fun u=>by have q:=iT x2 hx2 u;rw[hv2]at q;exact q⟩;rw[hv1]at HL;rw[hv2]at HL;clear hv1 hv2;obtain⟨SL1,SL2⟩:=HSL.out;have SL1:=aA SL1
    have SL2:=aA SL2;clear HSL HKL HKW HW0' HW0 HLW HML hnm;have HVB:=aA (HVR.out.below (aF wr (.cells #[.int .i64 kx,.int .i64 v1,.int .i64 v2,.int .i64 0,.slice none 0 0] 24)))
    have HBB:=aA (HBR.out.alloc HBR.out.size (.cells #[.int .i64 kx,.int .i64 v1,.int .i64 v2,.int .i64 0,.slice none 0 0] 24));obtain⟨⟨c0,c1,c2,c3,c4⟩,cz⟩:=HVR.out;have hne:w.heap.size≠wr.heap.size:=by omega
    have hne':wr.heap.size≠w.heap.size:=by omega
    by_cases n1:v1<0
    ·have HBAD:Hid (∀l,cD l s→False):=aA (fun l hl=>by have q:=(HL.out l hl).2;omega);have m1:¬0≤v1:=by omega
     go_wp2_with (first|(go_at_call 34;first|(with_reducible refine(SL1.out _).mono ?_;rintro e w' ⟨rfl,hw'⟩;obtain rfl:=hw'.symm;clear hw')|(with_reducible refine(SL2.out _).mono ?_;rintro e w' ⟨rfl,hw'⟩;obtain rfl:=hw'.symm;clear hw'))|(go_at_call 33;with_reducible refine(HMN.out _).mono ?_;rintro e w' ⟨rfl,hw'⟩;obtain rfl:=hw'.symm;clear hw'));refine bC (v:=.tuple #[.agg #[.int .i64 0,.int .i64 0,.int .i64 0,.int .i64 0,.slice none 0 0],.bool false]) (by simp[results,Tryz.results8,go_sem, *]) rfl ?_;with_reducible exact HNO.out _ HBAD.out ((HEND.out _ HBR.out _ _ _ _ _).alloc (HEND.out _ HBR.out _ _ _ _ _).size _)
    have m1:0≤v1:=by omega
    clear n1;by_cases n2:v2<0
    ·have HBAD:Hid (∀l,cD l s→False):=aA (fun l hl=>by have q:=(HL.out l hl).2;omega);have m2:¬0≤v2:=by omega
     go_wp2_with (first|(go_at_call 34;first|(with_reducible refine(SL1.out _).mono ?_;rintro e w' ⟨rfl,hw'⟩;obtain rfl:=hw'.symm;clear hw')|(with_reducible refine(SL2.out _).mono ?_;rintro e w' ⟨rfl,hw'⟩;obtain rfl:=hw'.symm;clear hw'))|(go_at_call 33;with_reducible refine(HMN.out _).mono ?_;rintro e w' ⟨rfl,hw'⟩;obtain rfl:=hw'.symm;clear hw'));refine bC (v:=.tuple #[.agg #[.int .i64 0,.int .i64 0,.int .i64 0,.int .i64 0,.slice none 0 0],.bool false]) (by simp[results,Tryz.results8,go_sem, *]) rfl ?_;with_reducible exact HNO.out _ HBAD.out ((HEND.out _ HBR.out _ _ _ _ _).alloc (HEND.out _ HBR.out _ _ _ _ _).size _)
    have m2:0≤v2:=by omega
    clear n2;have HVW:=HVB
    have HDW:=aA (V5.box wr 24 (.int .i64 kx) (.int .i64 v1) (.int .i64 v2) (.int .i64 0) (.slice none 0 0));have HBW:=HBB
    have HOW2:=aA (mP w.heap.size (wr.alloc (.cells #[.int .i64 kx,.int .i64 v1,.int .i64 v2,.int .i64 0,.slice none 0 0] 24)));clear c0 c1 c2 c3 c4 cz;have HTX:=aA (dM kx v1 v2 0 none 0 0 (lf []) (wr.alloc (.cells #[.int .i64 kx,.int .i64 v1,.int .i64 v2,.int .i64 0,.slice none 0 0] 24)) HOW2.out.1)
    obtain⟨X,hX⟩:∃X,dW kx v1 v2 0 0 (lf [])=X:=⟨_,rfl⟩
    rw[hX]at HTX;have HXX:Hid ((⟨kx,v1,v2,0,[]⟩:kR).txt=X):=aA hX
    clear hX;go_wp2_with (first|(go_at_call 34;first|(with_reducible refine(SL1.out _).mono ?_;rintro e w' ⟨rfl,hw'⟩;obtain rfl:=hw'.symm;clear hw')|(with_reducible refine(SL2.out _).mono ?_;rintro e w' ⟨rfl,hw'⟩;obtain rfl:=hw'.symm;clear hw'))|(go_at_call 33;with_reducible refine(HMN.out _).mono ?_;rintro e w' ⟨rfl,hw'⟩;obtain rfl:=hw'.symm;clear hw'));with_reducible refine HTX.out.mono ?_
    rintro r w6 ⟨rfl,hb6⟩;have HB6:=aA (aC HBW.out hb6)
    have HO6:=aA (HOW2.out.below hb6);obtain⟨⟨c0,c1,c2,c3,c4⟩,cz⟩:=HVW.out.below hb6;obtain⟨⟨d0,d1,d2,d3,d4⟩,dz⟩:=HDW.out.below hb6;clear hb6 HTX HVW HDW HBW HOW2;by_cases q:X=s
    ·have HIS:Hid (cD ⟨kx,v1,v2,0,[]⟩ s):=aA ⟨HXX.out.trans q,HS0.out (by omega)⟩;have qb:(X==s)=true:=by rw[q];exact beq_self_eq_true _
     clear q;go_wp2;refine bC (v:=.tuple #[.agg #[.int .i64 kx,.int .i64 v1,.int .i64 v2,.int .i64 0,.slice none 0 0],.bool true]) (by simp[results,Tryz.results8,go_sem, *]) rfl ?_;with_reducible exact HYES0.out _ _ _ _ _ HIS.out (HEND.out _ HB6.out _ _ _ _ _)
    ·have HBAD:Hid (∀l,cD l s→False):=aA (fun l hl=>q (by have z:=(HL.out l hl).1;rw[←HXX.out,←z];exact hl.1));have qb:(X==s)=false:=beq_eq_false_iff_ne.2 q
     clear q;go_wp2;refine bC (v:=.tuple #[.agg #[.int .i64 0,.int .i64 0,.int .i64 0,.int .i64 0,.slice none 0 0],.bool false]) (by simp[results,Tryz.results8,go_sem, *]) rfl ?_;with_reducible exact HNO.out _ HBAD.out (HEND.out _ HB6.out _ _ _ _ _)
   ·have nb:((N:Int)!=3)=true:=by simp;omega
    have HBAD:Hid (∀l,cD l s→False):=aA (fun l hl=>by have q:=(HKL.out l hl).2.1;rw[hnm]at q;split at q<;>omega);obtain⟨⟨c0,c1,c2,c3,c4⟩,cz⟩:=HVR.out;go_wp2_with (go_at_call 33;with_reducible refine(HMN.out _).mono ?_;rintro e w' ⟨rfl,hw'⟩;obtain rfl:=hw'.symm;clear hw');refine bC (v:=.tuple #[.agg #[.int .i64 0,.int .i64 0,.int .i64 0,.int .i64 0,.slice none 0 0],.bool false]) (by simp[results,Tryz.results8,go_sem, *]) rfl ?_;with_reducible exact HNO.out _ HBAD.out (HEND.out _ HBR.out _ _ _ _ _)
  ·have hnm:dR kx=3:=by rcases hq with rfl|rfl|rfl|rfl<;>rfl
   have HMN:Hid (∀u,Calls Tryz.prog 33 #[.int .i64 kx] u fun e w'=>e= .returned (.int .i64 3)∧w'=u):=aA (fun u=>by have q:=dX kx (by omega) u;rw[hnm]at q;exact q);have k1b:(kx==(1:Int))=false:=by simp;omega
   have k0b:(kx==(0:Int))=false:=by simp;omega
   by_cases hNl:N=4
   ·subst hNl;obtain⟨x0,x1,x2,x3,hWx⟩:∃x0 x1 x2 x3,W=[x0,x1,x2,x3]:=RK HN.out;subst hWx;have hx1:x1.length≤1048576:=by have:=HML.out 1 x1 rfl;omega
    have hc1:=dP HOWr.out (i:=1) (l:=x1) rfl;have hx2:x2.length≤1048576:=by have:=HML.out 2 x2 rfl;omega
    have hc2:=dP HOWr.out (i:=2) (l:=x2) rfl;have hd2:=fun o:Obj=>gF hc2 o
    have hx3:x3.length≤1048576:=by have:=HML.out 3 x3 rfl;omega
    have hc3:=dP HOWr.out (i:=3) (l:=x3) rfl;have hd3:=fun o:Obj=>gF hc3 o
    have HL:Hid (∀l,cD l s→l=⟨kx,jX x1,jX x2,jX x3,[]⟩∧0≤jX x1∧0≤jX x2∧0≤jX x3):=aA (fun l hl=>UC hl (HKL.out l hl).1 (by first|trivial|omega) hnm (HKL.out l hl).2.2);obtain⟨v1,hv1⟩:∃v,jX x1=v:=⟨_,rfl⟩
    obtain⟨v2,hv2⟩:∃v,jX x2=v:=⟨_,rfl⟩
    obtain⟨v3,hv3⟩:∃v,jX x3=v:=⟨_,rfl⟩
    have HSL:Hid ((∀u:World,Calls Tryz.prog 34 #[.string ⟨x1.toArray⟩] u fun e w'=>e= .returned (.int .i64 v1)∧w'=u)∧(∀u:World,Calls Tryz.prog 34 #[.string ⟨x2.toArray⟩] u fun e w'=>e= .returned (.int .i64 v2)∧w'=u)∧(∀u:World,Calls Tryz.prog 34 #[.string ⟨x3.toArray⟩] u fun e w'=>e= .returned (.int .i64 v3)∧w'=u)):=aA ⟨fun u=>by have q:=iT x1 hx1 u;rw[hv1]at q;exact q,fun u=>by have q:=iT x2 hx2 u;rw[hv2]at q;exact q,fun u=>by have q:=iT x3 hx3 u;rw[hv3]at q;exact q⟩;rw[hv1]at HL;rw[hv2]at HL;rw[hv3]at HL;clear hv1 hv2 hv3;obtain⟨SL1,SL2,SL3⟩:=HSL.out;have SL1:=aA SL1
    have SL2:=aA SL2;have SL3:=aA SL3
    clear HSL HKL HKW HW0' HW0 HLW HML hnm;have HVB:=aA (HVR.out.below (aF wr (.cells #[.int .i64 kx,.int .i64 v1,.int .i64 v2,.int .i64 v3,.slice none 0 0] 24)))
    have HBB:=aA (HBR.out.alloc HBR.out.size (.cells #[.int .i64 kx,.int .i64 v1,.int .i64 v2,.int .i64 v3,.slice none 0 0] 24));obtain⟨⟨c0,c1,c2,c3,c4⟩,cz⟩:=HVR.out;have hne:w.heap.size≠wr.heap.size:=by omega
    have hne':wr.heap.size≠w.heap.size:=by omega
    by_cases n1:v1<0
    ·have HBAD:Hid (∀l,cD l s→False):=aA (fun l hl=>by have q:=(HL.out l hl).2;omega);have m1:¬0≤v1:=by omega
     go_wp2_with (first|(go_at_call 34;first|(with_reducible refine(SL1.out _).mono ?_;rintro e w' ⟨rfl,hw'⟩;obtain rfl:=hw'.symm;clear hw')|(with_reducible refine(SL2.out _).mono ?_;rintro e w' ⟨rfl,hw'⟩;obtain rfl:=hw'.symm;clear hw')|(with_reducible refine(SL3.out _).mono ?_;rintro e w' ⟨rfl,hw'⟩;obtain rfl:=hw'.symm;clear hw'))|(go_at_call 33;with_reducible refine(HMN.out _).mono ?_;rintro e w' ⟨rfl,hw'⟩;obtain rfl:=hw'.symm;clear hw'));refine bC (v:=.tuple #[.agg #[.int .i64 0,.int .i64 0,.int .i64 0,.int .i64 0,.slice none 0 0],.bool false]) (by simp[results,Tryz.results8,go_sem, *]) rfl ?_;with_reducible exact HNO.out _ HBAD.out ((HEND.out _ HBR.out _ _ _ _ _).alloc (HEND.out _ HBR.out _ _ _ _ _).size _)
    have m1:0≤v1:=by omega
    clear n1;by_cases n2:v2<0
    ·have HBAD:Hid (∀l,cD l s→False):=aA (fun l hl=>by have q:=(HL.out l hl).2;omega);have m2:¬0≤v2:=by omega
     go_wp2_with (first|(go_at_call 34;first|(with_reducible refine(SL1.out _).mono ?_;rintro e w' ⟨rfl,hw'⟩;obtain rfl:=hw'.symm;clear hw')|(with_reducible refine(SL2.out _).mono ?_;rintro e w' ⟨rfl,hw'⟩;obtain rfl:=hw'.symm;clear hw')|(with_reducible refine(SL3.out _).mono ?_;rintro e w' ⟨rfl,hw'⟩;obtain rfl:=hw'.symm;clear hw'))|(go_at_call 33;with_reducible refine(HMN.out _).mono ?_;rintro e w' ⟨rfl,hw'⟩;obtain rfl:=hw'.symm;clear hw'));refine bC (v:=.tuple #[.agg #[.int .i64 0,.int .i64 0,.int .i64 0,.int .i64 0,.slice none 0 0],.bool false]) (by simp[results,Tryz.results8,go_sem, *]) rfl ?_;with_reducible exact HNO.out _ HBAD.out ((HEND.out _ HBR.out _ _ _ _ _).alloc (HEND.out _ HBR.out _ _ _ _ _).size _)
    have m2:0≤v2:=by omega
    clear n2;by_cases n3:v3<0
    ·have HBAD:Hid (∀l,cD l s→False):=aA (fun l hl=>by have q:=(HL.out l hl).2;omega);have m3:¬0≤v3:=by omega
     go_wp2_with (first|(go_at_call 34;first|(with_reducible refine(SL1.out _).mono ?_;rintro e w' ⟨rfl,hw'⟩;obtain rfl:=hw'.symm;clear hw')|(with_reducible refine(SL2.out _).mono ?_;rintro e w' ⟨rfl,hw'⟩;obtain rfl:=hw'.symm;clear hw')|(with_reducible refine(SL3.out _).mono ?_;rintro e w' ⟨rfl,hw'⟩;obtain rfl:=hw'.symm;clear hw'))|(go_at_call 33;with_reducible refine(HMN.out _).mono ?_;rintro e w' ⟨rfl,hw'⟩;obtain rfl:=hw'.symm;clear hw'));refine bC (v:=.tuple #[.agg #[.int .i64 0,.int .i64 0,.int .i64 0,.int .i64 0,.slice none 0 0],.bool false]) (by simp[results,Tryz.results8,go_sem, *]) rfl ?_;with_reducible exact HNO.out _ HBAD.out ((HEND.out _ HBR.out _ _ _ _ _).alloc (HEND.out _ HBR.out _ _ _ _ _).size _)
    have m3:0≤v3:=by omega
    clear n3;have HVW:=HVB
    have HDW:=aA (V5.box wr 24 (.int .i64 kx) (.int .i64 v1) (.int .i64 v2) (.int .i64 v3) (.slice none 0 0));have HBW:=HBB
    have HOW2:=aA (mP w.heap.size (wr.alloc (.cells #[.int .i64 kx,.int .i64 v1,.int .i64 v2,.int .i64 v3,.slice none 0 0] 24)));clear c0 c1 c2 c3 c4 cz;have HTX:=aA (dM kx v1 v2 v3 none 0 0 (lf []) (wr.alloc (.cells #[.int .i64 kx,.int .i64 v1,.int .i64 v2,.int .i64 v3,.slice none 0 0] 24)) HOW2.out.1)
    obtain⟨X,hX⟩:∃X,dW kx v1 v2 v3 0 (lf [])=X:=⟨_,rfl⟩
    rw[hX]at HTX;have HXX:Hid ((⟨kx,v1,v2,v3,[]⟩:kR).txt=X):=aA hX
    clear hX;go_wp2_with (first|(go_at_call 34;first|(with_reducible refine(SL1.out _).mono ?_;rintro e w' ⟨rfl,hw'⟩;obtain rfl:=hw'.symm;clear hw')|(with_reducible refine(SL2.out _).mono ?_;rintro e w' ⟨rfl,hw'⟩;obtain rfl:=hw'.symm;clear hw')|(with_reducible refine(SL3.out _).mono ?_;rintro e w' ⟨rfl,hw'⟩;obtain rfl:=hw'.symm;clear hw'))|(go_at_call 33;with_reducible refine(HMN.out _).mono ?_;rintro e w' ⟨rfl,hw'⟩;obtain rfl:=hw'.symm;clear hw'));with_reducible refine HTX.out.mono ?_
    rintro r w6 ⟨rfl,hb6⟩;have HB6:=aA (aC HBW.out hb6)
    have HO6:=aA (HOW2.out.below hb6);obtain⟨⟨c0,c1,c2,c3,c4⟩,cz⟩:=HVW.out.below hb6;obtain⟨⟨d0,d1,d2,d3,d4⟩,dz⟩:=HDW.out.below hb6;clear hb6 HTX HVW HDW HBW HOW2;by_cases q:X=s
    ·have HIS:Hid (cD ⟨kx,v1,v2,v3,[]⟩ s):=aA ⟨HXX.out.trans q,HS0.out (by omega)⟩;have qb:(X==s)=true:=by rw[q];exact beq_self_eq_true _
     clear q;go_wp2;refine bC (v:=.tuple #[.agg #[.int .i64 kx,.int .i64 v1,.int .i64 v2,.int .i64 v3,.slice none 0 0],.bool true]) (by simp[results,Tryz.results8,go_sem, *]) rfl ?_;with_reducible exact HYES0.out _ _ _ _ _ HIS.out (HEND.out _ HB6.out _ _ _ _ _)
    ·have HBAD:Hid (∀l,cD l s→False):=aA (fun l hl=>q (by have z:=(HL.out l hl).1;rw[←HXX.out,←z];exact hl.1));have qb:(X==s)=false:=beq_eq_false_iff_ne.2 q
     clear q;go_wp2;refine bC (v:=.tuple #[.agg #[.int .i64 0,.int .i64 0,.int .i64 0,.int .i64 0,.slice none 0 0],.bool false]) (by simp[results,Tryz.results8,go_sem, *]) rfl ?_;with_reducible exact HNO.out _ HBAD.out (HEND.out _ HB6.out _ _ _ _ _)
   ·have nb:((N:Int)!=4)=true:=by simp;omega
    have HBAD:Hid (∀l,cD l s→False):=aA (fun l hl=>by have q:=(HKL.out l hl).2.1;rw[hnm]at q;split at q<;>omega);obtain⟨⟨c0,c1,c2,c3,c4⟩,cz⟩:=HVR.out;go_wp2_with (go_at_call 33;with_reducible refine(HMN.out _).mono ?_;rintro e w' ⟨rfl,hw'⟩;obtain rfl:=hw'.symm;clear hw');refine bC (v:=.tuple #[.agg #[.int .i64 0,.int .i64 0,.int .i64 0,.int .i64 0,.slice none 0 0],.bool false]) (by simp[results,Tryz.results8,go_sem, *]) rfl ?_;with_reducible exact HNO.out _ HBAD.out (HEND.out _ HBR.out _ _ _ _ _)
end Go.Proofs.YtkcmamepoplcdaaGreatDoor
