/-
  The model reads a line (DskRead).
-/
import Derived.Test.YtkcmamepoplcdaaGreatDoorVbk
import Derived.Test.YtkcmamepoplcdaaGreatDoorVbo
set_option maxHeartbeats 8000000
set_option maxRecDepth 100000
namespace Go.Proofs.YtkcmamepoplcdaaGreatDoor
open Go.RowKit Go.Deep
set_option linter.unusedVariables false
set_option linter.unusedSimpArgs false
theorem gS {u:World} {p:Addr} {v:Value} (h:u.cell? p=some v) (o:Obj):(u.alloc o).cell? p=some v:=by have hl:=BX _ _ h;rw[World.cell?_alloc_lt _ _ _ hl];exact h
theorem iU {u:World} {p:Addr} {v:Value} (h:u.cell? p=some v):u.drew.cell? p=some v:=h
def kd (K:Int) (k:Nat):Int:=if K<(k:Int)then K else 0
theorem KB {k:Nat} (h1:1≤k) (h8:k≤8):(#[.string ⟨#[]⟩,.string ⟨#[115,101,116]⟩,.string ⟨#[97,100,100]⟩,.string ⟨#[109,117,108]⟩,.string ⟨#[97,112,97,114,116]⟩,.string ⟨#[100,111]⟩,.string ⟨#[114,111,117,110,100]⟩,.string ⟨#[98,97,99,107]⟩,.string ⟨#[115,104,111,119]⟩]:Array Value)[k]? =some (.string ⟨(gB (k:Int)).toArray⟩):=by rcases(show k=1∨k=2∨k=3∨k=4∨k=5∨k=6∨k=7∨k=8 by omega)with rfl|rfl|rfl|rfl|rfl|rfl|rfl|rfl<;>rfl
theorem KC (u:World) {k:Nat} (h1:1≤k) (h8:k≤8):(u.alloc (.cells #[.string ⟨#[]⟩,.string ⟨#[115,101,116]⟩,.string ⟨#[97,100,100]⟩,.string ⟨#[109,117,108]⟩,.string ⟨#[97,112,97,114,116]⟩,.string ⟨#[100,111]⟩,.string ⟨#[114,111,117,110,100]⟩,.string ⟨#[98,97,99,107]⟩,.string ⟨#[115,104,111,119]⟩] 9)).cell? ⟨u.heap.size,k,none⟩=some (.string ⟨(gB (k:Int)).toArray⟩):=by rw[World.cell?_alloc_at _ _ _ _ rfl];exact KB h1 h8
theorem TY {l:lG} {s:List UInt8} (h:cJ l s):tM s=mH l.k l.to l.a l.b l.P.length (lf l.P):=by have hk:=h.ok;unfold tM;rw[if_pos (by have:=hk.len;omega),JO hk]
theorem DF (k to a b:Int) (n:Nat) (f:Nat→T):(mH k to a b n f).length=1+eD k+(if k=1 then 1 else 0):=by
 have h3:eD k≤3:=by unfold eD;split<;>(try split)<;>(try split)<;>omega
 unfold mH BU;rw[List.length_cons,List.length_append,List.length_take];have:(if k=1 then[cY n f]else([]:List (List UInt8))).length=if k=1 then 1 else 0:=by split<;>rfl
 rw[this];simp only[List.length_cons,List.length_nil];omega
theorem TS {W:List (List UInt8)} (h:W.length=2):∃a b,W=[a,b]:=match W,h with|[a,b],_=>⟨a,b,rfl⟩
theorem PY {W:List (List UInt8)} (h:W.length=3):∃a b c,W=[a,b,c]:=match W,h with|[a,b,c],_=>⟨a,b,c,rfl⟩
theorem TU {W:List (List UInt8)} (h:W.length=4):∃a b c d,W=[a,b,c,d]:=match W,h with|[a,b,c,d],_=>⟨a,b,c,d,rfl⟩
theorem WB {l:lG} {s:List UInt8} {k:Int} {x0 x1:List UInt8} (h:cJ l s) (hk:l.k=k) (h1:k≠1) (hn:eD k=1) (hW:[x0,x1]=mH k l.to l.a l.b l.P.length (lf l.P)):l=⟨k,kO x1,0,0,[]⟩∧0≤kO x1:=by
 have ho:=h.ok;have ha:=ho.a0.resolve_left (by rw[hk,hn];omega)
 have hb:=ho.b0.resolve_left (by rw[hk,hn];omega);have hp:=ho.p0.resolve_left (by rw[hk];exact h1)
 have e1:x1=[cZ l.to]:=by unfold mH BU at hW;rw[hn,if_neg h1]at hW;simpa using(List.cons.inj hW).2
 have e2:=nQ ho.to.1 ho.to.2;rw[e1,e2];obtain⟨k',to,a,b,P⟩:=l;simp only at hk ha hb hp;subst hk ha hb hp;exact⟨rfl,ho.to.1⟩
theorem WC {l:lG} {s:List UInt8} {k:Int} {x0 x1 x2:List UInt8} (h:cJ l s) (hk:l.k=k) (h1:k≠1) (hn:eD k=2) (hW:[x0,x1,x2]=mH k l.to l.a l.b l.P.length (lf l.P)):l=⟨k,kO x1,kO x2,0,[]⟩∧0≤kO x1∧0≤kO x2:=by
 have ho:=h.ok;have hb:=ho.b0.resolve_left (by rw[hk,hn];omega)
 have hp:=ho.p0.resolve_left (by rw[hk];exact h1);have e1:x1=[cZ l.to]∧x2=[cZ l.a]:=by unfold mH BU at hW;rw[hn,if_neg h1]at hW;simpa using(List.cons.inj hW).2
 have e2:=nQ ho.to.1 ho.to.2;have e3:=nQ ho.a.1 ho.a.2
 rw[e1.1,e1.2,e2,e3];obtain⟨k',to,a,b,P⟩:=l;simp only at hk hb hp;subst hk hb hp;exact⟨rfl,ho.to.1,ho.a.1⟩
theorem WD {l:lG} {s:List UInt8} {k:Int} {x0 x1 x2 x3:List UInt8} (h:cJ l s) (hk:l.k=k) (h1:k≠1) (hn:eD k=3) (hW:[x0,x1,x2,x3]=mH k l.to l.a l.b l.P.length (lf l.P)):l=⟨k,kO x1,kO x2,kO x3,[]⟩∧0≤kO x1∧0≤kO x2∧0≤kO x3:=by
 have ho:=h.ok;have hp:=ho.p0.resolve_left (by rw[hk];exact h1)
 have e1:x1=[cZ l.to]∧x2=[cZ l.a]∧x3=[cZ l.b]:=by unfold mH BU at hW;rw[hn,if_neg h1]at hW;simpa using(List.cons.inj hW).2
 have e2:=nQ ho.to.1 ho.to.2;have e3:=nQ ho.a.1 ho.a.2
 have e4:=nQ ho.b.1 ho.b.2;rw[e1.1,e1.2.1,e1.2.2,e2,e3,e4];obtain⟨k',to,a,b,P⟩:=l;simp only at hk hp;subst hk hp;exact⟨rfl,ho.to.1,ho.a.1,ho.b.1⟩
theorem WE {l:lG} {s:List UInt8} {x0 x1 x2:List UInt8} (h:cJ l s) (hk:l.k=1) (_:True) (hn:eD 1=1) (hW:[x0,x1,x2]=mH 1 l.to l.a l.b l.P.length (lf l.P)):l=⟨1,kO x1,0,0,(eL x2).1⟩∧0≤kO x1∧(eL x2).2=true:=by
 have ho:=h.ok;have ha:=ho.a0.resolve_left (by rw[hk,hn];omega)
 have hb:=ho.b0.resolve_left (by rw[hk,hn];omega);have e1:x1=[cZ l.to]∧x2=cY l.P.length (lf l.P):=by unfold mH BU at hW;rw[hn,if_pos rfl]at hW;simpa using(List.cons.inj hW).2
 have e2:=nQ ho.to.1 ho.to.2;have e3:=TW ho hk
 rw[e1.1,e1.2,e2,e3];obtain⟨k',to,a,b,P⟩:=l;simp only at hk ha hb;subst hk ha hb;exact⟨rfl,ho.to.1,rfl⟩
theorem IP (s:List UInt8) (hs:s.length≤1048576) (w:World):Calls Tryz.prog 8 #[.string ⟨s.toArray⟩] w (hZ w s):=by
 have hB0:=aF w (.cells #[.int .i64 0,.int .i64 0,.int .i64 0,.int .i64 0,.slice none 0 0] 24);have HB0:=aA hB0
 have HV0:=aA (V5.box w 24 (.int .i64 0) (.int .i64 0) (.int .i64 0) (.int .i64 0) (.slice none 0 0));have HC:=aA (EY s hs (w.alloc (.cells #[.int .i64 0,.int .i64 0,.int .i64 0,.int .i64 0,.slice none 0 0] 24)))
 have HLW:Hid (∀l,cJ l s→tM s=mH l.k l.to l.a l.b l.P.length (lf l.P)):=aA (fun l h=>TY h);have HML:Hid (∀(i:Nat) (x:List UInt8),(tM s)[i]? =some x→x.length≤420):=aA (fun i x h=>PG h)
 have HW0:=aA (SN s);obtain⟨W,hW⟩:∃W,tM s=W:=⟨_,rfl⟩
 rw[hW]at HC HLW HML HW0;have hNb:W.length≤421:=by rw[←hW];exact SM s
 obtain⟨N,hN⟩:∃N,W.length=N:=⟨_,rfl⟩
 rw[hN]at HC hNb;have HN:=aA hN
 have HNO:Hid (∀w',(∀l,cJ l s→False)→Below w.heap.size w w'→hZ w s (.returned (.tuple #[.agg #[.int .i64 0,.int .i64 0,.int .i64 0,.int .i64 0,.slice none 0 0],.bool false])) w'):=aA (fun w' h hb=>zD h hb);have HYES:Hid (∀(k to a b:Int) (P:List T) (w':World) (pa:Option Addr) (cap:Nat),cJ ⟨k,to,a,b,P⟩ s→Below w.heap.size w w'→iT w.heap.size w' pa cap P→hZ w s (.returned (.tuple #[.agg #[.int .i64 k,.int .i64 to,.int .i64 a,.int .i64 b,.slice pa P.length cap],.bool true])) w'):=aA (fun k to a b P w' pa cap h hb ho=>mP h hb ho)
 have HYES0:Hid (∀(k to a b:Int) (w':World),cJ ⟨k,to,a,b,[]⟩ s→Below w.heap.size w w'→hZ w s (.returned (.tuple #[.agg #[.int .i64 k,.int .i64 to,.int .i64 a,.int .i64 b,.slice none 0 0],.bool true])) w'):=aA (fun k to a b w' h hb=>mP h hb (nN _ _));obtain⟨PS,hPS⟩:∃Q:Ending→World→Prop,hZ w s=Q:=⟨_,rfl⟩
 rw[hPS]at HNO HYES HYES0⊢;have HEND:Hid (∀(V:World) (B:Below w.heap.size w V) (v0 v1 v2 v3 v4:Value),Below w.heap.size w (((((V.setCell ⟨w.heap.size,0,none⟩ v0).setCell ⟨w.heap.size,1,none⟩ v1).setCell ⟨w.heap.size,2,none⟩ v2).setCell ⟨w.heap.size,3,none⟩ v3).setCell ⟨w.heap.size,4,none⟩ v4)):=aA (fun V B v0 v1 v2 v3 v4=>((((B.setCell (Nat.le_refl _) _).setCell (Nat.le_refl _) _).setCell (Nat.le_refl _) _).setCell (Nat.le_refl _) _).setCell (Nat.le_refl _) _)
 clear hW hN hPS hB0;go_enter Tryz.func8,Tryz.ntmps8;go_wp2_with fail;refine HC.out.mono ?_;rintro r w1 ⟨g,cp,rfl,how,hb1⟩;have HOW:=aA how
 have HB1:=aA (aC HB0.out hb1);have HV1:=aA (HV0.out.below hb1)
 have hlt1:w.heap.size<w1.heap.size:=eH (by simp) hb1.size;clear how hb1 HC HB0 HV0;obtain⟨K,hK⟩:∃K:Int,K=(if N=0 then 0 else kn (W.getD 0 [])):=⟨_,rfl⟩
 have hKb:0≤K∧K≤8:=by rw[hK];split<;>first|omega|exact JF _
 have HK:=aA hK;clear hK;go_wp2;go_loopw [6,5] (fun v6 v5 wr=>∃(k:Nat) (kx:Int),1≤k∧k≤9∧v6= .int .i64 (k:Int)∧v5= .int .i64 kx∧Hid (kx=kd K k)∧Hid (Below w1.heap.size w1 wr)) (fun v6 _ _=>9-(intOf v6).toNat);case atStart=>exact⟨1,0,Nat.le_refl _,by omega,rfl,rfl,aA (by unfold kd;split<;>omega),aA (aD _ _)⟩
 case round=>
  obtain⟨k,kx,hk1,hk9,rfl,rfl,HKX,HI⟩:=hrel;by_cases hN0:N=0
  ·have hng:¬(0:Int)<(N:Int):=by omega
   have hkx:kx=0:=by rw[HKX.out];unfold kd;have:=HK.out;rw[if_pos hN0]at this;split<;>omega
   subst hkx;have hk8:(k:Int)≤8∨¬(k:Int)≤8:=by omega
   have hBR:=aA (aC HB1.out HI.out);have HVR:=aA (HV1.out.below HI.out)
   obtain⟨⟨c0,c1,c2,c3,c4⟩,cz⟩:=HVR.out
   have HBAD:Hid (∀l,cJ l s→False):=aA (fun l hl=>by
    have e:=HLW.out l hl;have e2:=congrArg List.length e
    rw[HN.out,DF]at e2
    omega)
   rcases hk8 with hk8|hk8
   all_goals(
    go_wp2;refine aY (v:=.tuple #[.agg #[.int .i64 0,.int .i64 0,.int .i64 0,.int .i64 0,.slice none 0 0],.bool false]) (by simp[results,Tryz.results8,go_sem, *]) rfl ?_
    with_reducible exact HNO.out _ HBAD.out (HEND.out _ hBR.out _ _ _ _ _))
  have hNp:(0:Int)<(N:Int):=by omega
  obtain⟨w0,hw0⟩:∃x,W[0]? =some x:=⟨_,List.getElem?_eq_getElem (by rw[HN.out];omega)⟩
  have HW0':=aA hw0;have hKw:K=kn w0:=by rw[HK.out,if_neg hN0,List.getD_eq_getElem?_getD,hw0];rfl
  have HKW:=aA hKw;have hOW:=aR HOW.out HI.out
  have hc0:=eE hOW hw0;have HOWr:=aA hOW
  clear hw0 hKw hOW;by_cases hk8:k≤8
  ·have hk8I:(k:Int)≤8:=by omega
   have hk9I:(k:Int)<9:=by omega
   have hkI:(1:Int)≤(k:Int):=by omega
   have hnk:=fun u:World=>KC u hk1 hk8;have hnm:=KB hk1 hk8
   have HC0:=aA hc0;have HNA:=aA (fun u=>lA u)
   obtain⟨NK,hNK⟩:∃x,gB (k:Int)=x:=⟨_,rfl⟩
   have HNK:=aA hNK;rw[hNK]at hnm;simp only[hNK]at hnk;clear hNK;go_wp2_with fail;rename_i K0 hK0;refine wp_region_held_drew (S:=fun u=>u.cell? ⟨g,0,none⟩=some (.string ⟨w0.toArray⟩)) (by kernel_rfl) (by first|with_reducible exact HC0.out|with_reducible exact iU HC0.out|with_reducible exact gS HC0.out _|with_reducible exact iU (gS HC0.out _)|with_reducible exact gS (iU HC0.out) _) (fun hHeld=>?_);refine wpAnyH_take (i:=1) (v:=?_) rfl (by kernel_rfl) (by kernel_rfl) (by kernel_rfl) (fun _ _ _ h=>h) (Or.inl ⟨by rfl,?_⟩) (by assumption) ?_;rotate_left
   ·(intro w9 hSw;(try dsimp only at hSw);go_simp)<;>with_reducible rfl
   try simp only[Act.put,aL]
   refine wpAnyH_take (i:=4) (v:=?_) rfl (by kernel_rfl) (by kernel_rfl) (by kernel_rfl) (fun _ _ _ h=>h) (Or.inl ⟨by rfl,?_⟩) (by assumption) ?_;rotate_left
   ·(intro w9 hSw;(try dsimp only at hSw);go_simp)<;>with_reducible rfl
   try simp only[Act.put,aL]
   refine wpAnyH_take (i:=5) (v:=?_) rfl (by kernel_rfl) (by kernel_rfl) (by kernel_rfl) (fun _ _ _ h=>h) (Or.inl ⟨by rfl,?_⟩) (by assumption) ?_;rotate_left
   ·(intro w9 hSw;(try dsimp only at hSw);go_simp)<;>with_reducible rfl
   try simp only[Act.put,aL]
   refine wpAnyH_take (i:=6) (v:=?_) rfl (by kernel_rfl) (by kernel_rfl) (by kernel_rfl) (fun _ _ _ h=>h) (Or.inl ⟨by rfl,?_⟩) (by assumption) ?_;rotate_left
   ·(intro w9 hSw;(try dsimp only at hSw);go_simp)<;>with_reducible rfl
   try simp only[Act.put,aL]
   refine wpAnyH_ready (rs:=[0]) (by kernel_rfl) (by simp) ?_;refine AllReadyH.cons rfl (fun K hK=>?_) AllReadyH.nil;go_simp;go_wp2_with (go_at_call 32;refine(HNA.out _).mono ?_;rintro r w' ⟨rfl,hw'⟩;rw[hw'];clear hw');refine hK.out _ _ (by first|with_reducible exact HC0.out|with_reducible exact iU HC0.out|with_reducible exact gS HC0.out _|with_reducible exact iU (gS HC0.out _)|with_reducible exact gS (iU HC0.out) _) (fun hHeld2=>?_);clear hK K hHeld;have hHeld:=hHeld2
   clear hHeld2;try simp only[Act.put,aL]
   refine wpAnyH_take (i:=2) (v:=?_) rfl (by kernel_rfl) (by kernel_rfl) (by kernel_rfl) (fun _ _ _ h=>h) (Or.inl ⟨by rfl,?_⟩) (by assumption) ?_;rotate_left
   ·(intro w9 hSw;(try dsimp only at hSw);go_simp)<;>with_reducible rfl
   try simp only[Act.put,aL]
   refine wpAnyH_ready (rs:=[3]) (by kernel_rfl) (by simp) ?_;refine AllReadyH.cons rfl (fun K hK=>?_) AllReadyH.nil;go_simp;refine hK.out _ _ (by first|with_reducible exact HC0.out|with_reducible exact iU HC0.out|with_reducible exact gS HC0.out _|with_reducible exact iU (gS HC0.out _)|with_reducible exact gS (iU HC0.out) _) (fun hHeld2=>?_);clear hK K hHeld;have hHeld:=hHeld2
   clear hHeld2;try simp only[Act.put,aL]
   refine wpAnyH_take (i:=7) (v:=?_) rfl (by kernel_rfl) (by kernel_rfl) (by kernel_rfl) (fun _ _ _ h=>h) (Or.inl ⟨by rfl,?_⟩) (by assumption) ?_;rotate_left
   ·(intro w9 hSw;(try dsimp only at hSw);go_simp)<;>with_reducible rfl
   try simp only[Act.put,aL]
   refine wpAnyH_done (by kernel_rfl) ?_ _;rotate_left;go_wp2
   ·rename_i e;have e2:NK=w0:=eq_of_beq e
    have hKk:K=(k:Int):=by rw[HKW.out,←e2,←HNK.out];exact sD ⟨by omega,by omega⟩
    have hkd:(k:Int)=kd K (k+1):=by unfold kd;rw[if_pos (by omega)];omega
    have HKD:=aA hkd;clear hkd hKk e e2;go_roundw;case rel=>exact⟨k+1,_,by omega,by omega,by go_num,rfl,HKD,aA (by repeat(first|with_reducible exact HI.out|with_reducible refine lW ?_|with_reducible refine aT ?_))⟩
    case measure=>simp[intOf];omega
   ·rename_i e;have e2:NK≠w0:=ne_of_beq_false e
    have hKk:K≠(k:Int):=fun q=>e2 (by rw[←HNK.out,←q,HKW.out];exact JY (by rw[←HKW.out];omega));have hkd:kx=kd K (k+1):=by rw[HKX.out];unfold kd;split<;>split<;>omega
    have HKD:=aA hkd;clear hkd hKk e e2;go_roundw;case rel=>exact⟨k+1,_,by omega,by omega,by go_num,rfl,HKD,aA (by repeat(first|with_reducible exact HI.out|with_reducible refine lW ?_|with_reducible refine aT ?_))⟩
    case measure=>simp[intOf];omega
  have hk9':k=9:=by omega
  have hkx:kx=K:=by rw[HKX.out];unfold kd;rw[if_pos (by omega)]
  subst hk9' hkx;have HBR:=aA (aC HB1.out HI.out)
  have HVR:=aA (HV1.out.below HI.out);have hltr:w.heap.size<wr.heap.size:=eH hlt1 HI.out.size
  clear HKX HK HI HOW HB1 HV1 hk1 hk9 hk8 hlt1 hc0
  have HS0:Hid (kx≠0→s≠[]):=aA (fun q e=>by
   rcases HW0.out with z|z
   ·rw[z]at HN;exact hN0 HN.out.symm
   ·rw[e]at z;have z2:=HW0'.out
    rw[z]at z2;have z3:w0=[]:=by simpa[dZ]using z2.symm
    rw[HKW.out,z3]at q
    exact q (by decide))
  have HKL:Hid (∀l,cJ l s→l.k=kx∧N=1+eD kx+(if kx=1 then 1 else 0)∧W=mH kx l.to l.a l.b l.P.length (lf l.P)):=aA (fun l hl=>by
   have e:=HLW.out l hl;have z:=HW0'.out
   rw[e]at z;have z2:gB l.k=w0:=by simpa[mH]using z
   have z3:l.k=kx:=by rw[HKW.out,←z2,sD hl.ok.k]
   refine⟨z3,?_,by rw[←z3];exact e⟩
   rw[←HN.out,e,DF,z3])
  by_cases hK0:kx=0
  ·subst hK0;have HBAD:Hid (∀l,cJ l s→False):=aA (fun l hl=>by have:=(HKL.out l hl).1;have:=hl.ok.k;omega)
   obtain⟨⟨c0,c1,c2,c3,c4⟩,cz⟩:=HVR.out;go_wp2;refine aY (v:=.tuple #[.agg #[.int .i64 0,.int .i64 0,.int .i64 0,.int .i64 0,.slice none 0 0],.bool false]) (by simp[results,Tryz.results8,go_sem, *]) rfl ?_;with_reducible exact HNO.out _ HBAD.out (HEND.out _ HBR.out _ _ _ _ _)
  rcases(show kx=1∨kx=8∨(kx=6∨kx=7)∨(kx=2∨kx=3∨kx=4∨kx=5) by omega)with hq|hq|hq|hq
  ·subst hq;have hnm:eD 1=1:=rfl
   have HMN:Hid (∀u,Calls Tryz.prog 33 #[.int .i64 1] u fun e w'=>e= .returned (.int .i64 1)∧w'=u):=aA (fun u=>by have q:=dJ 1 (by omega) u;rw[hnm]at q;exact q);have k1b:(1==(1:Int))=true:=by simp
   have k0b:(1==(0:Int))=false:=by simp
   by_cases hNl:N=3
   ·subst hNl;obtain⟨x0,x1,x2,hWx⟩:∃x0 x1 x2,W=[x0,x1,x2]:=PY HN.out;subst hWx;have hx1:x1.length≤1048576:=by have:=HML.out 1 x1 rfl;omega
    have hc1:=eE HOWr.out (i:=1) (l:=x1) rfl;have hx2:x2.length≤1048576:=by have:=HML.out 2 x2 rfl;omega
    have hc2:=eE HOWr.out (i:=2) (l:=x2) rfl;have hd2:=fun o:Obj=>gS hc2 o
    have HL:Hid (∀l,cJ l s→l=⟨1,kO x1,0,0,(eL x2).1⟩∧0≤kO x1∧(eL x2).2=true):=aA (fun l hl=>WE hl (HKL.out l hl).1 (by first|trivial|omega) hnm (HKL.out l hl).2.2);obtain⟨v1,hv1⟩:∃v,kO x1=v:=⟨_,rfl⟩
    have HSL:Hid ((∀u:World,Calls Tryz.prog 34 #[.string ⟨x1.toArray⟩] u fun e w'=>e= .returned (.int .i64 v1)∧w'=u)):=aA (fun u=>by have q:=jK x1 hx1 u;rw[hv1]at q;exact q);rw[hv1]at HL;clear hv1;have SL1:=HSL.out
    have SL1:=aA SL1;clear HSL HKL HKW HW0' HW0 HLW HML hnm;have HVB:=aA (HVR.out.below (aF wr (.cells #[.int .i64 1,.int .i64 v1,.int .i64 0,.int .i64 0,.slice none 0 0] 24)))
    have HBB:=aA (HBR.out.alloc HBR.out.size (.cells #[.int .i64 1,.int .i64 v1,.int .i64 0,.int .i64 0,.slice none 0 0] 24));obtain⟨⟨c0,c1,c2,c3,c4⟩,cz⟩:=HVR.out;have hne:w.heap.size≠wr.heap.size:=by omega
    have hne':wr.heap.size≠w.heap.size:=by omega
    by_cases n1:v1<0
    ·have HBAD:Hid (∀l,cJ l s→False):=aA (fun l hl=>by have q:=(HL.out l hl).2;omega);have m1:¬0≤v1:=by omega
     have HPR:=aA (zT x2 hx2 (wr.alloc (.cells #[.int .i64 1,.int .i64 v1,.int .i64 0,.int .i64 0,.slice none 0 0] 24)));have HB8:=aA (V5.box wr 24 (.int .i64 1) (.int .i64 v1) (.int .i64 0) (.int .i64 0) (.slice none 0 0))
     obtain⟨q,hq⟩:∃q,eL x2=q:=⟨_,rfl⟩
     rw[hq]at HPR;clear hq c0 c1 c2 c3 c4 cz;go_wp2_with (first|(go_at_call 34;first|(with_reducible refine(SL1.out _).mono ?_;rintro e w' ⟨rfl,hw'⟩;obtain rfl:=hw'.symm;clear hw'))|(go_at_call 33;with_reducible refine(HMN.out _).mono ?_;rintro e w' ⟨rfl,hw'⟩;obtain rfl:=hw'.symm;clear hw'));with_reducible refine HPR.out.mono ?_
     rintro r w5 ⟨pa,pc,rfl,hb5,hout⟩;have HV5:=aA (HVB.out.below hb5)
     have HB5:=aA (aC HBB.out hb5);obtain⟨⟨c0,c1,c2,c3,c4⟩,cz⟩:=HV5.out;obtain⟨⟨d0,d1,d2,d3,d4⟩,dz⟩:=HB8.out.below hb5;have hne5:wr.heap.size<w5.heap.size:=eH (by simp) hb5.size
     clear hb5 hout HPR HB8 HVB HBB;go_wp2;refine aY (v:=.tuple #[.agg #[.int .i64 0,.int .i64 0,.int .i64 0,.int .i64 0,.slice none 0 0],.bool false]) (by simp[results,Tryz.results8,go_sem, *]) rfl ?_;with_reducible exact HNO.out _ HBAD.out (HEND.out _ (HB5.out.setCell (p:=⟨wr.heap.size,4,none⟩) (show w.heap.size≤wr.heap.size by omega) _) _ _ _ _ _)
    have m1:0≤v1:=by omega
    clear n1;have HPR:=aA (zT x2 hx2 (wr.alloc (.cells #[.int .i64 1,.int .i64 v1,.int .i64 0,.int .i64 0,.slice none 0 0] 24)))
    have HB8:=aA (V5.box wr 24 (.int .i64 1) (.int .i64 v1) (.int .i64 0) (.int .i64 0) (.slice none 0 0));obtain⟨q,hq⟩:∃q,eL x2=q:=⟨_,rfl⟩
    rw[hq]at HPR HL;obtain⟨QP,fine⟩:=q;simp only at HPR HL;clear hq c0 c1 c2 c3 c4 cz;go_wp2_with (first|(go_at_call 34;first|(with_reducible refine(SL1.out _).mono ?_;rintro e w' ⟨rfl,hw'⟩;obtain rfl:=hw'.symm;clear hw'))|(go_at_call 33;with_reducible refine(HMN.out _).mono ?_;rintro e w' ⟨rfl,hw'⟩;obtain rfl:=hw'.symm;clear hw'));with_reducible refine HPR.out.mono ?_
    rintro r w5 ⟨pa,pc,rfl,hb5,hout⟩;have HV5:=aA (HVB.out.below hb5)
    have HB5:=aA (aC HBB.out hb5);have HD5:=aA (HB8.out.below hb5)
    have hne5:wr.heap.size<w5.heap.size:=eH (by simp) hb5.size;have HS5:=aA (oS (lo':=wr.heap.size+1) hout (by simp))
    have HOUT:=aA hout;clear hb5 hout HPR HB8 HVB HBB;cases fine
    ·have HBAD:Hid (∀l,cJ l s→False):=aA (fun l hl=>by have q:=(HL.out l hl).2.2;cases q);obtain⟨⟨c0,c1,c2,c3,c4⟩,cz⟩:=HV5.out;obtain⟨⟨d0,d1,d2,d3,d4⟩,dz⟩:=HD5.out;go_wp2;refine aY (v:=.tuple #[.agg #[.int .i64 0,.int .i64 0,.int .i64 0,.int .i64 0,.slice none 0 0],.bool false]) (by simp[results,Tryz.results8,go_sem, *]) rfl ?_;with_reducible exact HNO.out _ HBAD.out (HEND.out _ (HB5.out.setCell (p:=⟨wr.heap.size,4,none⟩) (show w.heap.size≤wr.heap.size by omega) _) _ _ _ _ _)
    have HVW:=aA (HV5.out.other (b':=wr.heap.size) (k:=4) hne' (.slice pa QP.length pc));have HDW:=aA (HD5.out.set4 (.slice pa QP.length pc))
    have HBW:=aA (HB5.out.setCell (B:=w.heap.size) (p:=⟨wr.heap.size,4,none⟩) (show w.heap.size≤wr.heap.size by omega) (.slice pa QP.length pc));have HOW2:=aA (mT HS5.out (k:=4) (v:=.slice pa QP.length pc) (b:=wr.heap.size) (by omega))
    have HTX:=aA (dQ 1 v1 0 0 pa QP.length pc (lf QP) (w5.setCell ⟨wr.heap.size,4,none⟩ (.slice pa QP.length pc)) HOW2.out.1);obtain⟨X,hX⟩:∃X,eI 1 v1 0 0 QP.length (lf QP)=X:=⟨_,rfl⟩
    rw[hX]at HTX;have HXX:Hid ((⟨1,v1,0,0,QP⟩:lG).txt=X):=aA hX
    clear hX;obtain⟨⟨d0,d1,d2,d3,d4⟩,dz⟩:=HD5.out;obtain⟨⟨e0,e1,e2,e3,e4⟩,ez⟩:=HDW.out;go_wp2_with fail;with_reducible refine HTX.out.mono ?_
    rintro r w6 ⟨rfl,hb6⟩;have HB6:=aA (aC HBW.out hb6)
    have HO6:=aA (HOW2.out.below hb6);clear d0 d1 d2 d3 d4 dz e0 e1 e2 e3 e4 ez;obtain⟨⟨c0,c1,c2,c3,c4⟩,cz⟩:=HVW.out.below hb6;obtain⟨⟨d0,d1,d2,d3,d4⟩,dz⟩:=HDW.out.below hb6;clear hb6 HTX HVW HDW HBW HOW2;by_cases q:X=s
    ·have HIS:Hid (cJ ⟨1,v1,0,0,QP⟩ s):=aA ⟨HXX.out.trans q,HS0.out (by omega)⟩;have qb:(X==s)=true:=by rw[q];exact beq_self_eq_true _
     clear q;go_wp2;refine aY (v:=.tuple #[.agg #[.int .i64 1,.int .i64 v1,.int .i64 0,.int .i64 0,.slice pa QP.length pc],.bool true]) (by simp[results,Tryz.results8,go_sem, *]) rfl ?_;with_reducible exact HYES.out _ _ _ _ _ _ _ _ HIS.out (HEND.out _ HB6.out _ _ _ _ _) (oS (sL HO6.out (by omega) _ _ _ _ _) (by omega))
    ·have HBAD:Hid (∀l,cJ l s→False):=aA (fun l hl=>q (by have z:=(HL.out l hl).1;rw[←HXX.out,←z];exact hl.1));have qb:(X==s)=false:=beq_eq_false_iff_ne.2 q
     clear q;go_wp2;refine aY (v:=.tuple #[.agg #[.int .i64 0,.int .i64 0,.int .i64 0,.int .i64 0,.slice none 0 0],.bool false]) (by simp[results,Tryz.results8,go_sem, *]) rfl ?_;with_reducible exact HNO.out _ HBAD.out (HEND.out _ HB6.out _ _ _ _ _)
   ·have nb:((N:Int)!=3)=true:=by simp;omega
    have HBAD:Hid (∀l,cJ l s→False):=aA (fun l hl=>by have q:=(HKL.out l hl).2.1;rw[hnm]at q;split at q<;>omega);obtain⟨⟨c0,c1,c2,c3,c4⟩,cz⟩:=HVR.out;go_wp2_with (go_at_call 33;with_reducible refine(HMN.out _).mono ?_;rintro e w' ⟨rfl,hw'⟩;obtain rfl:=hw'.symm;clear hw');refine aY (v:=.tuple #[.agg #[.int .i64 0,.int .i64 0,.int .i64 0,.int .i64 0,.slice none 0 0],.bool false]) (by simp[results,Tryz.results8,go_sem, *]) rfl ?_;with_reducible exact HNO.out _ HBAD.out (HEND.out _ HBR.out _ _ _ _ _)
  ·subst hq;have hnm:eD 8=1:=rfl
   have HMN:Hid (∀u,Calls Tryz.prog 33 #[.int .i64 8] u fun e w'=>e= .returned (.int .i64 1)∧w'=u):=aA (fun u=>by have q:=dJ 8 (by omega) u;rw[hnm]at q;exact q);have k1b:(8==(1:Int))=false:=by simp
   have k0b:(8==(0:Int))=false:=by simp
   by_cases hNl:N=2
   ·subst hNl;obtain⟨x0,x1,hWx⟩:∃x0 x1,W=[x0,x1]:=TS HN.out;subst hWx;have hx1:x1.length≤1048576:=by have:=HML.out 1 x1 rfl;omega
    have hc1:=eE HOWr.out (i:=1) (l:=x1) rfl;have HL:Hid (∀l,cJ l s→l=⟨8,kO x1,0,0,[]⟩∧0≤kO x1):=aA (fun l hl=>WB hl (HKL.out l hl).1 (by first|trivial|omega) hnm (HKL.out l hl).2.2)
    obtain⟨v1,hv1⟩:∃v,kO x1=v:=⟨_,rfl⟩
    have HSL:Hid ((∀u:World,Calls Tryz.prog 34 #[.string ⟨x1.toArray⟩] u fun e w'=>e= .returned (.int .i64 v1)∧w'=u)):=aA (fun u=>by have q:=jK x1 hx1 u;rw[hv1]at q;exact q);rw[hv1]at HL;clear hv1;have SL1:=HSL.out
    have SL1:=aA SL1;clear HSL HKL HKW HW0' HW0 HLW HML hnm;have HVB:=aA (HVR.out.below (aF wr (.cells #[.int .i64 8,.int .i64 v1,.int .i64 0,.int .i64 0,.slice none 0 0] 24)))
    have HBB:=aA (HBR.out.alloc HBR.out.size (.cells #[.int .i64 8,.int .i64 v1,.int .i64 0,.int .i64 0,.slice none 0 0] 24));obtain⟨⟨c0,c1,c2,c3,c4⟩,cz⟩:=HVR.out;have hne:w.heap.size≠wr.heap.size:=by omega
    have hne':wr.heap.size≠w.heap.size:=by omega
    by_cases n1:v1<0
    ·have HBAD:Hid (∀l,cJ l s→False):=aA (fun l hl=>by have q:=(HL.out l hl).2;omega);have m1:¬0≤v1:=by omega
     go_wp2_with (first|(go_at_call 34;first|(with_reducible refine(SL1.out _).mono ?_;rintro e w' ⟨rfl,hw'⟩;obtain rfl:=hw'.symm;clear hw'))|(go_at_call 33;with_reducible refine(HMN.out _).mono ?_;rintro e w' ⟨rfl,hw'⟩;obtain rfl:=hw'.symm;clear hw'));refine aY (v:=.tuple #[.agg #[.int .i64 0,.int .i64 0,.int .i64 0,.int .i64 0,.slice none 0 0],.bool false]) (by simp[results,Tryz.results8,go_sem, *]) rfl ?_;with_reducible exact HNO.out _ HBAD.out ((HEND.out _ HBR.out _ _ _ _ _).alloc (HEND.out _ HBR.out _ _ _ _ _).size _)
    have m1:0≤v1:=by omega
    clear n1;have HVW:=HVB
    have HDW:=aA (V5.box wr 24 (.int .i64 8) (.int .i64 v1) (.int .i64 0) (.int .i64 0) (.slice none 0 0));have HBW:=HBB
    have HOW2:=aA (nN w.heap.size (wr.alloc (.cells #[.int .i64 8,.int .i64 v1,.int .i64 0,.int .i64 0,.slice none 0 0] 24)));clear c0 c1 c2 c3 c4 cz;have HTX:=aA (dQ 8 v1 0 0 none 0 0 (lf []) (wr.alloc (.cells #[.int .i64 8,.int .i64 v1,.int .i64 0,.int .i64 0,.slice none 0 0] 24)) HOW2.out.1)
    obtain⟨X,hX⟩:∃X,eI 8 v1 0 0 0 (lf [])=X:=⟨_,rfl⟩
    rw[hX]at HTX;have HXX:Hid ((⟨8,v1,0,0,[]⟩:lG).txt=X):=aA hX
    clear hX;go_wp2_with (first|(go_at_call 34;first|(with_reducible refine(SL1.out _).mono ?_;rintro e w' ⟨rfl,hw'⟩;obtain rfl:=hw'.symm;clear hw'))|(go_at_call 33;with_reducible refine(HMN.out _).mono ?_;rintro e w' ⟨rfl,hw'⟩;obtain rfl:=hw'.symm;clear hw'));with_reducible refine HTX.out.mono ?_
    rintro r w6 ⟨rfl,hb6⟩;have HB6:=aA (aC HBW.out hb6)
    have HO6:=aA (HOW2.out.below hb6);obtain⟨⟨c0,c1,c2,c3,c4⟩,cz⟩:=HVW.out.below hb6;obtain⟨⟨d0,d1,d2,d3,d4⟩,dz⟩:=HDW.out.below hb6;clear hb6 HTX HVW HDW HBW HOW2;by_cases q:X=s
    ·have HIS:Hid (cJ ⟨8,v1,0,0,[]⟩ s):=aA ⟨HXX.out.trans q,HS0.out (by omega)⟩;have qb:(X==s)=true:=by rw[q];exact beq_self_eq_true _
     clear q;go_wp2;refine aY (v:=.tuple #[.agg #[.int .i64 8,.int .i64 v1,.int .i64 0,.int .i64 0,.slice none 0 0],.bool true]) (by simp[results,Tryz.results8,go_sem, *]) rfl ?_;with_reducible exact HYES0.out _ _ _ _ _ HIS.out (HEND.out _ HB6.out _ _ _ _ _)
    ·have HBAD:Hid (∀l,cJ l s→False):=aA (fun l hl=>q (by have z:=(HL.out l hl).1;rw[←HXX.out,←z];exact hl.1));have qb:(X==s)=false:=beq_eq_false_iff_ne.2 q
     clear q;go_wp2;refine aY (v:=.tuple #[.agg #[.int .i64 0,.int .i64 0,.int .i64 0,.int .i64 0,.slice none 0 0],.bool false]) (by simp[results,Tryz.results8,go_sem, *]) rfl ?_;with_reducible exact HNO.out _ HBAD.out (HEND.out _ HB6.out _ _ _ _ _)
   ·have nb:((N:Int)!=2)=true:=by simp;omega
    have HBAD:Hid (∀l,cJ l s→False):=aA (fun l hl=>by have q:=(HKL.out l hl).2.1;rw[hnm]at q;split at q<;>omega);obtain⟨⟨c0,c1,c2,c3,c4⟩,cz⟩:=HVR.out;go_wp2_with (go_at_call 33;with_reducible refine(HMN.out _).mono ?_;rintro e w' ⟨rfl,hw'⟩;obtain rfl:=hw'.symm;clear hw');refine aY (v:=.tuple #[.agg #[.int .i64 0,.int .i64 0,.int .i64 0,.int .i64 0,.slice none 0 0],.bool false]) (by simp[results,Tryz.results8,go_sem, *]) rfl ?_;with_reducible exact HNO.out _ HBAD.out (HEND.out _ HBR.out _ _ _ _ _)
  ·have hnm:eD kx=2:=by rcases hq with rfl|rfl<;>rfl
   have HMN:Hid (∀u,Calls Tryz.prog 33 #[.int .i64 kx] u fun e w'=>e= .returned (.int .i64 2)∧w'=u):=aA (fun u=>by have q:=dJ kx (by omega) u;rw[hnm]at q;exact q);have k1b:(kx==(1:Int))=false:=by simp;omega
   have k0b:(kx==(0:Int))=false:=by simp;omega
   by_cases hNl:N=3
   ·subst hNl;obtain⟨x0,x1,x2,hWx⟩:∃x0 x1 x2,W=[x0,x1,x2]:=PY HN.out;subst hWx;have hx1:x1.length≤1048576:=by have:=HML.out 1 x1 rfl;omega
    have hc1:=eE HOWr.out (i:=1) (l:=x1) rfl;have hx2:x2.length≤1048576:=by have:=HML.out 2 x2 rfl;omega
    have hc2:=eE HOWr.out (i:=2) (l:=x2) rfl;have hd2:=fun o:Obj=>gS hc2 o
    have HL:Hid (∀l,cJ l s→l=⟨kx,kO x1,kO x2,0,[]⟩∧0≤kO x1∧0≤kO x2):=aA (fun l hl=>WC hl (HKL.out l hl).1 (by first|trivial|omega) hnm (HKL.out l hl).2.2);obtain⟨v1,hv1⟩:∃v,kO x1=v:=⟨_,rfl⟩
    obtain⟨v2,hv2⟩:∃v,kO x2=v:=⟨_,rfl⟩
    have HSL:Hid ((∀u:World,Calls Tryz.prog 34 #[.string ⟨x1.toArray⟩] u fun e w'=>e= .returned (.int .i64 v1)∧w'=u)∧(∀u:World,Calls Tryz.prog 34 #[.string ⟨x2.toArray⟩] u fun e w'=>e= .returned (.int .i64 v2)∧w'=u)):=aA ⟨fun u=>by have q:=jK x1 hx1 u;rw[hv1]at q;exact q,fun u=>by have q:=jK x2 hx2 u;rw[hv2]at q;exact q⟩;rw[hv1]at HL;rw[hv2]at HL;clear hv1 hv2;obtain⟨SL1,SL2⟩:=HSL.out;have SL1:=aA SL1
    have SL2:=aA SL2;clear HSL HKL HKW HW0' HW0 HLW HML hnm;have HVB:=aA (HVR.out.below (aF wr (.cells #[.int .i64 kx,.int .i64 v1,.int .i64 v2,.int .i64 0,.slice none 0 0] 24)))
    have HBB:=aA (HBR.out.alloc HBR.out.size (.cells #[.int .i64 kx,.int .i64 v1,.int .i64 v2,.int .i64 0,.slice none 0 0] 24));obtain⟨⟨c0,c1,c2,c3,c4⟩,cz⟩:=HVR.out;have hne:w.heap.size≠wr.heap.size:=by omega
    have hne':wr.heap.size≠w.heap.size:=by omega
    by_cases n1:v1<0
    ·have HBAD:Hid (∀l,cJ l s→False):=aA (fun l hl=>by have q:=(HL.out l hl).2;omega);have m1:¬0≤v1:=by omega
     go_wp2_with (first|(go_at_call 34;first|(with_reducible refine(SL1.out _).mono ?_;rintro e w' ⟨rfl,hw'⟩;obtain rfl:=hw'.symm;clear hw')|(with_reducible refine(SL2.out _).mono ?_;rintro e w' ⟨rfl,hw'⟩;obtain rfl:=hw'.symm;clear hw'))|(go_at_call 33;with_reducible refine(HMN.out _).mono ?_;rintro e w' ⟨rfl,hw'⟩;obtain rfl:=hw'.symm;clear hw'));refine aY (v:=.tuple #[.agg #[.int .i64 0,.int .i64 0,.int .i64 0,.int .i64 0,.slice none 0 0],.bool false]) (by simp[results,Tryz.results8,go_sem, *]) rfl ?_;with_reducible exact HNO.out _ HBAD.out ((HEND.out _ HBR.out _ _ _ _ _).alloc (HEND.out _ HBR.out _ _ _ _ _).size _)
    have m1:0≤v1:=by omega
    clear n1;by_cases n2:v2<0
    ·have HBAD:Hid (∀l,cJ l s→False):=aA (fun l hl=>by have q:=(HL.out l hl).2;omega);have m2:¬0≤v2:=by omega
     go_wp2_with (first|(go_at_call 34;first|(with_reducible refine(SL1.out _).mono ?_;rintro e w' ⟨rfl,hw'⟩;obtain rfl:=hw'.symm;clear hw')|(with_reducible refine(SL2.out _).mono ?_;rintro e w' ⟨rfl,hw'⟩;obtain rfl:=hw'.symm;clear hw'))|(go_at_call 33;with_reducible refine(HMN.out _).mono ?_;rintro e w' ⟨rfl,hw'⟩;obtain rfl:=hw'.symm;clear hw'));refine aY (v:=.tuple #[.agg #[.int .i64 0,.int .i64 0,.int .i64 0,.int .i64 0,.slice none 0 0],.bool false]) (by simp[results,Tryz.results8,go_sem, *]) rfl ?_;with_reducible exact HNO.out _ HBAD.out ((HEND.out _ HBR.out _ _ _ _ _).alloc (HEND.out _ HBR.out _ _ _ _ _).size _)
    have m2:0≤v2:=by omega
    clear n2;have HVW:=HVB
    have HDW:=aA (V5.box wr 24 (.int .i64 kx) (.int .i64 v1) (.int .i64 v2) (.int .i64 0) (.slice none 0 0));have HBW:=HBB
    have HOW2:=aA (nN w.heap.size (wr.alloc (.cells #[.int .i64 kx,.int .i64 v1,.int .i64 v2,.int .i64 0,.slice none 0 0] 24)));clear c0 c1 c2 c3 c4 cz;have HTX:=aA (dQ kx v1 v2 0 none 0 0 (lf []) (wr.alloc (.cells #[.int .i64 kx,.int .i64 v1,.int .i64 v2,.int .i64 0,.slice none 0 0] 24)) HOW2.out.1)
    obtain⟨X,hX⟩:∃X,eI kx v1 v2 0 0 (lf [])=X:=⟨_,rfl⟩
    rw[hX]at HTX;have HXX:Hid ((⟨kx,v1,v2,0,[]⟩:lG).txt=X):=aA hX
    clear hX;go_wp2_with (first|(go_at_call 34;first|(with_reducible refine(SL1.out _).mono ?_;rintro e w' ⟨rfl,hw'⟩;obtain rfl:=hw'.symm;clear hw')|(with_reducible refine(SL2.out _).mono ?_;rintro e w' ⟨rfl,hw'⟩;obtain rfl:=hw'.symm;clear hw'))|(go_at_call 33;with_reducible refine(HMN.out _).mono ?_;rintro e w' ⟨rfl,hw'⟩;obtain rfl:=hw'.symm;clear hw'));with_reducible refine HTX.out.mono ?_
    rintro r w6 ⟨rfl,hb6⟩;have HB6:=aA (aC HBW.out hb6)
    have HO6:=aA (HOW2.out.below hb6);obtain⟨⟨c0,c1,c2,c3,c4⟩,cz⟩:=HVW.out.below hb6;obtain⟨⟨d0,d1,d2,d3,d4⟩,dz⟩:=HDW.out.below hb6;clear hb6 HTX HVW HDW HBW HOW2;by_cases q:X=s
    ·have HIS:Hid (cJ ⟨kx,v1,v2,0,[]⟩ s):=aA ⟨HXX.out.trans q,HS0.out (by omega)⟩;have qb:(X==s)=true:=by rw[q];exact beq_self_eq_true _
     clear q;go_wp2;refine aY (v:=.tuple #[.agg #[.int .i64 kx,.int .i64 v1,.int .i64 v2,.int .i64 0,.slice none 0 0],.bool true]) (by simp[results,Tryz.results8,go_sem, *]) rfl ?_;with_reducible exact HYES0.out _ _ _ _ _ HIS.out (HEND.out _ HB6.out _ _ _ _ _)
    ·have HBAD:Hid (∀l,cJ l s→False):=aA (fun l hl=>q (by have z:=(HL.out l hl).1;rw[←HXX.out,←z];exact hl.1));have qb:(X==s)=false:=beq_eq_false_iff_ne.2 q
     clear q;go_wp2;refine aY (v:=.tuple #[.agg #[.int .i64 0,.int .i64 0,.int .i64 0,.int .i64 0,.slice none 0 0],.bool false]) (by simp[results,Tryz.results8,go_sem, *]) rfl ?_;with_reducible exact HNO.out _ HBAD.out (HEND.out _ HB6.out _ _ _ _ _)
   ·have nb:((N:Int)!=3)=true:=by simp;omega
    have HBAD:Hid (∀l,cJ l s→False):=aA (fun l hl=>by have q:=(HKL.out l hl).2.1;rw[hnm]at q;split at q<;>omega);obtain⟨⟨c0,c1,c2,c3,c4⟩,cz⟩:=HVR.out;go_wp2_with (go_at_call 33;with_reducible refine(HMN.out _).mono ?_;rintro e w' ⟨rfl,hw'⟩;obtain rfl:=hw'.symm;clear hw');refine aY (v:=.tuple #[.agg #[.int .i64 0,.int .i64 0,.int .i64 0,.int .i64 0,.slice none 0 0],.bool false]) (by simp[results,Tryz.results8,go_sem, *]) rfl ?_;with_reducible exact HNO.out _ HBAD.out (HEND.out _ HBR.out _ _ _ _ _)
  ·have hnm:eD kx=3:=by rcases hq with rfl|rfl|rfl|rfl<;>rfl
   have HMN:Hid (∀u,Calls Tryz.prog 33 #[.int .i64 kx] u fun e w'=>e= .returned (.int .i64 3)∧w'=u):=aA (fun u=>by have q:=dJ kx (by omega) u;rw[hnm]at q;exact q);have k1b:(kx==(1:Int))=false:=by simp;omega
   have k0b:(kx==(0:Int))=false:=by simp;omega
   by_cases hNl:N=4
   ·subst hNl;obtain⟨x0,x1,x2,x3,hWx⟩:∃x0 x1 x2 x3,W=[x0,x1,x2,x3]:=TU HN.out;subst hWx;have hx1:x1.length≤1048576:=by have:=HML.out 1 x1 rfl;omega
    have hc1:=eE HOWr.out (i:=1) (l:=x1) rfl;have hx2:x2.length≤1048576:=by have:=HML.out 2 x2 rfl;omega
    have hc2:=eE HOWr.out (i:=2) (l:=x2) rfl;have hd2:=fun o:Obj=>gS hc2 o
    have hx3:x3.length≤1048576:=by have:=HML.out 3 x3 rfl;omega
    have hc3:=eE HOWr.out (i:=3) (l:=x3) rfl;have hd3:=fun o:Obj=>gS hc3 o
    have HL:Hid (∀l,cJ l s→l=⟨kx,kO x1,kO x2,kO x3,[]⟩∧0≤kO x1∧0≤kO x2∧0≤kO x3):=aA (fun l hl=>WD hl (HKL.out l hl).1 (by first|trivial|omega) hnm (HKL.out l hl).2.2);obtain⟨v1,hv1⟩:∃v,kO x1=v:=⟨_,rfl⟩
    obtain⟨v2,hv2⟩:∃v,kO x2=v:=⟨_,rfl⟩
    obtain⟨v3,hv3⟩:∃v,kO x3=v:=⟨_,rfl⟩
    have HSL:Hid ((∀u:World,Calls Tryz.prog 34 #[.string ⟨x1.toArray⟩] u fun e w'=>e= .returned (.int .i64 v1)∧w'=u)∧(∀u:World,Calls Tryz.prog 34 #[.string ⟨x2.toArray⟩] u fun e w'=>e= .returned (.int .i64 v2)∧w'=u)∧(∀u:World,Calls Tryz.prog 34 #[.string ⟨x3.toArray⟩] u fun e w'=>e= .returned (.int .i64 v3)∧w'=u)):=aA ⟨fun u=>by have q:=jK x1 hx1 u;rw[hv1]at q;exact q,fun u=>by have q:=jK x2 hx2 u;rw[hv2]at q;exact q,fun u=>by have q:=jK x3 hx3 u;rw[hv3]at q;exact q⟩;rw[hv1]at HL;rw[hv2]at HL;rw[hv3]at HL;clear hv1 hv2 hv3;obtain⟨SL1,SL2,SL3⟩:=HSL.out;have SL1:=aA SL1
    have SL2:=aA SL2;have SL3:=aA SL3
    clear HSL HKL HKW HW0' HW0 HLW HML hnm;have HVB:=aA (HVR.out.below (aF wr (.cells #[.int .i64 kx,.int .i64 v1,.int .i64 v2,.int .i64 v3,.slice none 0 0] 24)))
    have HBB:=aA (HBR.out.alloc HBR.out.size (.cells #[.int .i64 kx,.int .i64 v1,.int .i64 v2,.int .i64 v3,.slice none 0 0] 24));obtain⟨⟨c0,c1,c2,c3,c4⟩,cz⟩:=HVR.out;have hne:w.heap.size≠wr.heap.size:=by omega
    have hne':wr.heap.size≠w.heap.size:=by omega
    by_cases n1:v1<0
    ·have HBAD:Hid (∀l,cJ l s→False):=aA (fun l hl=>by have q:=(HL.out l hl).2;omega);have m1:¬0≤v1:=by omega
     go_wp2_with (first|(go_at_call 34;first|(with_reducible refine(SL1.out _).mono ?_;rintro e w' ⟨rfl,hw'⟩;obtain rfl:=hw'.symm;clear hw')|(with_reducible refine(SL2.out _).mono ?_;rintro e w' ⟨rfl,hw'⟩;obtain rfl:=hw'.symm;clear hw')|(with_reducible refine(SL3.out _).mono ?_;rintro e w' ⟨rfl,hw'⟩;obtain rfl:=hw'.symm;clear hw'))|(go_at_call 33;with_reducible refine(HMN.out _).mono ?_;rintro e w' ⟨rfl,hw'⟩;obtain rfl:=hw'.symm;clear hw'));refine aY (v:=.tuple #[.agg #[.int .i64 0,.int .i64 0,.int .i64 0,.int .i64 0,.slice none 0 0],.bool false]) (by simp[results,Tryz.results8,go_sem, *]) rfl ?_;with_reducible exact HNO.out _ HBAD.out ((HEND.out _ HBR.out _ _ _ _ _).alloc (HEND.out _ HBR.out _ _ _ _ _).size _)
    have m1:0≤v1:=by omega
    clear n1;by_cases n2:v2<0
    ·have HBAD:Hid (∀l,cJ l s→False):=aA (fun l hl=>by have q:=(HL.out l hl).2;omega);have m2:¬0≤v2:=by omega
     go_wp2_with (first|(go_at_call 34;first|(with_reducible refine(SL1.out _).mono ?_;rintro e w' ⟨rfl,hw'⟩;obtain rfl:=hw'.symm;clear hw')|(with_reducible refine(SL2.out _).mono ?_;rintro e w' ⟨rfl,hw'⟩;obtain rfl:=hw'.symm;clear hw')|(with_reducible refine(SL3.out _).mono ?_;rintro e w' ⟨rfl,hw'⟩;obtain rfl:=hw'.symm;clear hw'))|(go_at_call 33;with_reducible refine(HMN.out _).mono ?_;rintro e w' ⟨rfl,hw'⟩;obtain rfl:=hw'.symm;clear hw'));refine aY (v:=.tuple #[.agg #[.int .i64 0,.int .i64 0,.int .i64 0,.int .i64 0,.slice none 0 0],.bool false]) (by simp[results,Tryz.results8,go_sem, *]) rfl ?_;with_reducible exact HNO.out _ HBAD.out ((HEND.out _ HBR.out _ _ _ _ _).alloc (HEND.out _ HBR.out _ _ _ _ _).size _)
    have m2:0≤v2:=by omega
    clear n2;by_cases n3:v3<0
    ·have HBAD:Hid (∀l,cJ l s→False):=aA (fun l hl=>by have q:=(HL.out l hl).2;omega);have m3:¬0≤v3:=by omega
     go_wp2_with (first|(go_at_call 34;first|(with_reducible refine(SL1.out _).mono ?_;rintro e w' ⟨rfl,hw'⟩;obtain rfl:=hw'.symm;clear hw')|(with_reducible refine(SL2.out _).mono ?_;rintro e w' ⟨rfl,hw'⟩;obtain rfl:=hw'.symm;clear hw')|(with_reducible refine(SL3.out _).mono ?_;rintro e w' ⟨rfl,hw'⟩;obtain rfl:=hw'.symm;clear hw'))|(go_at_call 33;with_reducible refine(HMN.out _).mono ?_;rintro e w' ⟨rfl,hw'⟩;obtain rfl:=hw'.symm;clear hw'));refine aY (v:=.tuple #[.agg #[.int .i64 0,.int .i64 0,.int .i64 0,.int .i64 0,.slice none 0 0],.bool false]) (by simp[results,Tryz.results8,go_sem, *]) rfl ?_;with_reducible exact HNO.out _ HBAD.out ((HEND.out _ HBR.out _ _ _ _ _).alloc (HEND.out _ HBR.out _ _ _ _ _).size _)
    have m3:0≤v3:=by omega
    clear n3;have HVW:=HVB
    have HDW:=aA (V5.box wr 24 (.int .i64 kx) (.int .i64 v1) (.int .i64 v2) (.int .i64 v3) (.slice none 0 0));have HBW:=HBB
    have HOW2:=aA (nN w.heap.size (wr.alloc (.cells #[.int .i64 kx,.int .i64 v1,.int .i64 v2,.int .i64 v3,.slice none 0 0] 24)));clear c0 c1 c2 c3 c4 cz;have HTX:=aA (dQ kx v1 v2 v3 none 0 0 (lf []) (wr.alloc (.cells #[.int .i64 kx,.int .i64 v1,.int .i64 v2,.int .i64 v3,.slice none 0 0] 24)) HOW2.out.1)
    obtain⟨X,hX⟩:∃X,eI kx v1 v2 v3 0 (lf [])=X:=⟨_,rfl⟩
    rw[hX]at HTX;have HXX:Hid ((⟨kx,v1,v2,v3,[]⟩:lG).txt=X):=aA hX
    clear hX;go_wp2_with (first|(go_at_call 34;first|(with_reducible refine(SL1.out _).mono ?_;rintro e w' ⟨rfl,hw'⟩;obtain rfl:=hw'.symm;clear hw')|(with_reducible refine(SL2.out _).mono ?_;rintro e w' ⟨rfl,hw'⟩;obtain rfl:=hw'.symm;clear hw')|(with_reducible refine(SL3.out _).mono ?_;rintro e w' ⟨rfl,hw'⟩;obtain rfl:=hw'.symm;clear hw'))|(go_at_call 33;with_reducible refine(HMN.out _).mono ?_;rintro e w' ⟨rfl,hw'⟩;obtain rfl:=hw'.symm;clear hw'));with_reducible refine HTX.out.mono ?_
    rintro r w6 ⟨rfl,hb6⟩;have HB6:=aA (aC HBW.out hb6)
    have HO6:=aA (HOW2.out.below hb6);obtain⟨⟨c0,c1,c2,c3,c4⟩,cz⟩:=HVW.out.below hb6;obtain⟨⟨d0,d1,d2,d3,d4⟩,dz⟩:=HDW.out.below hb6;clear hb6 HTX HVW HDW HBW HOW2;by_cases q:X=s
    ·have HIS:Hid (cJ ⟨kx,v1,v2,v3,[]⟩ s):=aA ⟨HXX.out.trans q,HS0.out (by omega)⟩;have qb:(X==s)=true:=by rw[q];exact beq_self_eq_true _
     clear q;go_wp2;refine aY (v:=.tuple #[.agg #[.int .i64 kx,.int .i64 v1,.int .i64 v2,.int .i64 v3,.slice none 0 0],.bool true]) (by simp[results,Tryz.results8,go_sem, *]) rfl ?_;with_reducible exact HYES0.out _ _ _ _ _ HIS.out (HEND.out _ HB6.out _ _ _ _ _)
    ·have HBAD:Hid (∀l,cJ l s→False):=aA (fun l hl=>q (by have z:=(HL.out l hl).1;rw[←HXX.out,←z];exact hl.1));have qb:(X==s)=false:=beq_eq_false_iff_ne.2 q
     clear q;go_wp2;refine aY (v:=.tuple #[.agg #[.int .i64 0,.int .i64 0,.int .i64 0,.int .i64 0,.slice none 0 0],.bool false]) (by simp[results,Tryz.results8,go_sem, *]) rfl ?_;with_reducible exact HNO.out _ HBAD.out (HEND.out _ HB6.out _ _ _ _ _)
   ·have nb:((N:Int)!=4)=true:=by simp;omega
    have HBAD:Hid (∀l,cJ l s→False):=aA (fun l hl=>by have q:=(HKL.out l hl).2.1;rw[hnm]at q;split at q<;>omega);obtain⟨⟨c0,c1,c2,c3,c4⟩,cz⟩:=HVR.out;go_wp2_with (go_at_call 33;with_reducible refine(HMN.out _).mono ?_;rintro e w' ⟨rfl,hw'⟩;obtain rfl:=hw'.symm;clear hw');refine aY (v:=.tuple #[.agg #[.int .i64 0,.int .i64 0,.int .i64 0,.int .i64 0,.slice none 0 0],.bool false]) (by simp[results,Tryz.results8,go_sem, *]) rfl ?_;with_reducible exact HNO.out _ HBAD.out (HEND.out _ HBR.out _ _ _ _ _)
end Go.Proofs.YtkcmamepoplcdaaGreatDoor
