/-
  An answer that is a basis is marked, and the marks are held.
-/
import Derived.Test.YtelkehjdfcoeiaaGreatNbq
set_option maxHeartbeats 4000000
set_option maxRecDepth 100000
namespace Go.Proofs.YtelkehjdfcoeiaaGreat
open Go.RowKit Go.Deep Go.Joins
set_option linter.unusedVariables false
theorem fV.trans {P:Nat→Prop} {a b c:World} (h:fV P a b) (k:fV P b c):fV P a c:=
 ⟨k.os.trans h.os,k.tape.trans h.tape,k.output.trans h.output,k.size.trans h.size,fun i hi hn=>(k.block i (by rw[h.size];exact hi) hn).trans (h.block i hi hn)⟩
theorem fV.mono {P P':Nat→Prop} {w w':World} (h:fV P w w') (hp:∀k,P k→P' k):fV P' w w':=⟨h.os,h.tape,h.output,h.size,fun k hk hn=>h.block k hk (fun e=>hn (hp k e))⟩
theorem fV.fr {P:Nat→Prop} {w w':World} (h:fV P w w'):Fr P w w':=⟨h.os,h.tape,h.output,by rw[h.size];exact Nat.le_refl _,h.block⟩
theorem fV.rds {P:Nat→Prop} {w w':World} (h:fV P w w') {a:Option Addr} {n cap:Nat} {ad:Nat→Option Addr} {ln cp:Nat→Nat} {f:Nat→Nat→T} (hr:eH w a n cap ad ln cp f) (h1:n=0∨¬P (cH a)) (h2:∀i,i<n→ln i=0∨¬P (cH (ad i))):eH w' a n cap ad ln cp f:=by
 refine⟨hr.1,hr.2.1,?_,fun i hi=>h.rd (hr.2.2.2 i hi) ((h2 i hi).imp id (fun q b off e=>by rw[←fE e];exact q))⟩;rcases hr.2.2.1 with h0|⟨b,off,e,hlt,hc⟩
 ·exact .inl h0
 ·rcases h1 with h0|h1
  ·exact .inl h0
  ·exact .inr ⟨b,off,e,by rw[h.size];exact hlt,fun i hi=>(h.cell hlt (by rw[←fE e];exact h1)).trans (hc i hi)⟩
theorem fV.outs {P:Nat→Prop} {w w':World} (h:fV P w w') {lo:Nat} {a:Option Addr} {n cap:Nat} {ad:Nat→Option Addr} {ln cp:Nat→Nat} {f:Nat→Nat→T} {R:Nat} {B:Nat→Nat} (hr:dV lo w a n cap ad ln cp f R B) (h1:n=0∨¬P (cH a)) (h2:∀i,i<n→ln i=0∨¬P (cH (ad i))):dV lo w' a n cap ad ln cp f R B:=
 ⟨h.rds hr.rd h1 h2,hr.row,fun i hi=>h.wr (hr.wr i hi) ((h2 i hi).imp id (fun q b off e=>by rw[←fE e];exact q)),hr.el,hr.ap⟩
def kR (k:Int) (g:Nat) (P:Nat→Nat→List T):Nat→Int
 |0=>k
 |i+1=>dK (kR k g P i) (lN (P i)) g
theorem CU {k:Int} {g m:Nat} {P:Nat→Nat→List T} (hg:g≤12) (hl:∀i,i<m→∀j,j<g→lN (P i) j≤1048576):∀i,i≤m→k≤kR k g P i∧kR k g P i≤k+62914560*i
 |0,_=>⟨Int.le_refl _,by show k≤k+62914560*((0:Nat):Int);omega⟩
 |i+1,h=>by
  have h1:=CU (k:=k) hg hl i (by omega);have h2:=kZ (k:=kR k g P i) (hl i (by omega)) g (Nat.le_refl _)
  show k≤dK (kR k g P i) (lN (P i)) g∧dK (kR k g P i) (lN (P i)) g≤k+62914560*((i+1:Nat):Int);omega
def KD (m g:Nat) (AD:Nat→Nat→Option Addr) (P:Nat→Nat→List T) (b:Nat):Prop:=∃i j,i<m∧j<g∧(P i j).length≠0∧cH (AD i j)=b
structure NI (lo:Nat) (w:World) (pa:Option Addr) (m g:Nat) (RA:Nat→Option Addr) (RC:Nat→Nat) (AD:Nat→Nat→Option Addr) (CP:Nat→Nat→Nat) (P:Nat→Nat→List T):Prop where
 pr:m=0∨∃off,pa=some ⟨cH pa,off,none⟩∧cH pa<w.heap.size∧∀i,i<m→w.cell? ⟨cH pa,off+i,none⟩=some (.slice (RA i) g (RC i))
 rw:∀i,i<m→dV lo w (RA i) g (RC i) (AD i) (lN (P i)) (CP i) (fN (P i)) (cH (RA i)) (fun j=>cH (AD i j))
 ne:∀i j,i<m→j<g→(P i j).length≠0→cH (AD i j)≠cH pa∧∀x,x<m→cH (AD i j)≠cH (RA x)
 ap:∀i j x y,i<m→j<g→x<m→y<g→i≠x→(P i j).length≠0→(P x y).length≠0→cH (AD i j)≠cH (AD x y)
theorem PD (lo:Nat) (w:World) (pa:Option Addr) (m pc g:Nat) (RA:Nat→Option Addr) (RC:Nat→Nat) (AD:Nat→Nat→Option Addr) (CP:Nat→Nat→Nat) (P:Nat→Nat→List T) (k:Int) (h:NI lo w pa m g RA RC AD CP P) (hm:m≤12) (hg:g≤12) (hl:∀i,i<m→∀j,j<g→lN (P i) j≤1048576) (hk0:0≤k) (hk1:k≤1000000000):Calls Tryz.prog 42 #[.slice pa m pc,.int .i64 k] w fun r w'=>r= .returned (.int .i64 (kR k g P m))∧fV (KD m g AD P) w w'∧∀i,i<m→eH w' (RA i) g (RC i) (AD i) (lN (P i)) (CP i) (fun j=>mk (dK (kR k g P i) (lN (P i)) j)):=by
 have hm':(m:Int)≤12:=by omega
 have HH:=aA h;have HL:=aA hl
 have HK:=aA (CU (k:=k) hg hl);clear h hl;go_enter Tryz.func42,Tryz.ntmps42;go_wp2;go_loopw [1,5] (fun kk ii wr=>∃i:Nat,i≤m∧ii= .int .i64 (i:Int)∧kk= .int .i64 (kR k g P i)∧fV (KD m g AD P) w wr∧(∀j,i≤j→j<m→dV lo wr (RA j) g (RC j) (AD j) (lN (P j)) (CP j) (fN (P j)) (cH (RA j)) (fun x=>cH (AD j x)))∧(∀j,j<i→eH wr (RA j) g (RC j) (AD j) (lN (P j)) (CP j) (fun x=>mk (dK (kR k g P j) (lN (P j)) x)))) (fun _ ii _=>m-(intOf ii).toNat);case atStart=>exact⟨0,Nat.zero_le _,rfl,rfl,fV.refl _ _,fun j _ hj=>HH.out.rw j hj,fun j hj=>by omega⟩
 case round=>
  obtain⟨i,hi,rfl,rfl,hA,hW,hM⟩:=hrel;have HA:=aA hA
  have HW:=aA hW;have HM:=aA hM
  clear hW hM;obtain⟨z0,z1⟩:=HK.out i hi;by_cases hlt:i<m
  ·have hil:(i:Int)<(m:Int):=by omega
   rcases HH.out.pr with h0|⟨off,epa,hblt,hcl⟩
   ·omega
   have hnp:¬KD m g AD P (cH pa):=fun⟨x,y,hx,hy,h0,e⟩=>(HH.out.ne x y hx hy h0).1 e;obtain⟨pb,hpb⟩:∃pb,cH pa=pb:=⟨_,rfl⟩
   have g0:wr.cell? ⟨cH pa,off+i,none⟩=some (.slice (RA i) g (RC i)):=(hA.cell hblt hnp).trans (hcl i hlt);rw[hpb]at g0 epa;have HPB:=aA hpb
   obtain⟨y,hy⟩:∃y,kR k g P i=y:=⟨_,rfl⟩
   rw[hy]at z0 z1;have HMK:=aA (vR lo wr (RA i) g (RC i) (AD i) (lN (P i)) (CP i) (fN (P i)) (cH (RA i)) (fun x=>cH (AD i x)) y (HW.out i (Nat.le_refl _) hlt) (by omega) (HL.out i hlt) (by omega) (by omega))
   have hks:kR k g P (i+1)=dK y (lN (P i)) g:=by show dK (kR k g P i) (lN (P i)) g=_;rw[hy]
   have HKS:=aA hks;have HY:=aA hy
   obtain⟨y2,hy2⟩:∃y2,dK y (lN (P i)) g=y2:=⟨_,rfl⟩
   rw[hy2]at HMK;have HY2:=aA hy2
   clear hcl hA hks hy hy2 hnp hpb;rw[HY.out];subst epa;go_wp2_with fail;refine HMK.out.mono ?_;rintro r w1 ⟨rfl,ho,hr⟩;have HA1:Hid (fV (KD m g AD P) w w1):=HA.out.trans (ho.mono (fun b ⟨x,hx,h0,e⟩=>⟨i,x,hlt,hx,h0,e⟩))
   have far:∀j,j<m→j≠i→(g=0∨¬(fun b=>∃x,x<g∧lN (P i) x≠0∧cH (AD i x)=b) (cH (RA j)))∧∀x,x<g→lN (P j) x=0∨¬(fun b=>∃x,x<g∧lN (P i) x≠0∧cH (AD i x)=b) (cH (AD j x)):=fun j hj hne=>⟨.inr (fun⟨x,hx,h0,e⟩=>(HH.out.ne i x hlt hx h0).2 j hj e),fun x hx=>by
    by_cases h0:lN (P j) x=0
    ·exact .inl h0
    ·exact .inr (fun⟨y,hy,h1,e⟩=>HH.out.ap i y j x hlt hy hj hx (fun q=>hne q.symm) h1 h0 e)⟩
   have HW1:Hid (∀j,i+1≤j→j<m→dV lo w1 (RA j) g (RC j) (AD j) (lN (P j)) (CP j) (fN (P j)) (cH (RA j)) (fun x=>cH (AD j x))):=fun j h1 h2=>ho.outs (HW.out j (by omega) h2) (far j h2 (by omega)).1 (far j h2 (by omega)).2;have HM1:Hid (∀j,j<i+1→eH w1 (RA j) g (RC j) (AD j) (lN (P j)) (CP j) (fun x=>mk (dK (kR k g P j) (lN (P j)) x))):=fun j h1=>by
    by_cases e:j=i
    ·subst e;rw[HY.out];exact hr
    ·exact ho.rds (HM.out j (by omega)) (far j (by omega) e).1 (far j (by omega) e).2
   clear ho hr far HMK g0;go_wp2;go_roundw;case rel=>exact⟨i+1,by omega,by go_num,by rw[HKS.out,HY2.out],HA1.out,HW1.out,HM1.out⟩
   case measure=>simp[intOf];omega
  ·have hnl:¬(i:Int)<(m:Int):=by omega
   have hie:i=m:=by omega
   subst hie;clear hA;go_wp2;go_ret;exact⟨rfl,HA.out,fun j hj=>HM.out j hj⟩
theorem OP (w:World) (pa:Option Addr) (m pc g:Nat) (RA:Nat→Option Addr) (RC:Nat→Nat) (AD:Nat→Nat→Option Addr) (CP:Nat→Nat→Nat) (P:Nat→Nat→List T) (k:Int) (h:NH w pa m pc RA RC AD CP (fun _=>g) (fun i=>lN (P i)) (fun i j=>mk (dK (kR k g P i) (lN (P i)) j))) (hm:m≤12) (hg:g≤12) (hl:∀i,i<m→∀j,j<g→lN (P i) j≤1048576) (hk0:0≤k) (hk1:k≤1000000000):Calls Tryz.prog 44 #[.slice pa m pc,.int .i64 k] w fun r w'=>r= .returned (.int .i64 (kR k g P m))∧w'=w:=by
 have hm':(m:Int)≤12:=by omega
 have HH:=aA h;have HL:=aA hl
 have HK:=aA (CU (k:=k) hg hl);clear h hl;go_enter Tryz.func44,Tryz.ntmps44;go_wp2;go_loopw [1,5] (fun kk ii wr=>∃i:Nat,i≤m∧ii= .int .i64 (i:Int)∧kk= .int .i64 (kR k g P i)∧wr=w) (fun _ ii _=>m-(intOf ii).toNat);case atStart=>exact⟨0,Nat.zero_le _,rfl,rfl,rfl⟩
 case round=>
  obtain⟨i,hi,rfl,rfl,rfl⟩:=hrel;obtain⟨z0,z1⟩:=HK.out i hi;by_cases hlt:i<m
  ·have hil:(i:Int)<(m:Int):=by omega
   rcases HH.out.2.2.1 with h0|⟨b,off,rfl,hblt,hcl⟩
   ·omega
   have g0:=hcl i hlt;obtain⟨y,hy⟩:∃y,kR k g P i=y:=⟨_,rfl⟩
   rw[hy]at z0 z1;have hr0:=HH.out.2.2.2 i hlt
   rw[show(fun i j=>mk (dK (kR k g P i) (lN (P i)) j)) i=fun j=>mk (dK y (lN (P i)) j) by rw[←hy]]at hr0;have HMK:=aA (yC _ (RA i) g (RC i) (AD i) (lN (P i)) (CP i) y hr0 (by omega) (HL.out i hlt) (by omega) (by omega))
   have hks:kR k g P (i+1)=dK y (lN (P i)) g:=by show dK (kR k g P i) (lN (P i)) g=_;rw[hy]
   have hb2:=kZ (k:=y) (HL.out i hlt) g (Nat.le_refl _);obtain⟨y2,hy2⟩:∃y2,dK y (lN (P i)) g=y2:=⟨_,rfl⟩
   rw[hy2]at HMK hks hb2;have HKS:=aA hks
   have hng:¬y2<0:=by omega
   have hng':decide (y2<0)=false:=decide_eq_false hng;have HY:=aA hy
   clear hcl hr0 hks hy hy2 hb2;rw[HY.out];go_wp2_with fail;refine HMK.out.mono ?_;rintro r w1 ⟨rfl,hw⟩;obtain rfl:=hw.symm;clear hw HMK g0;go_wp2;go_roundw;case rel=>exact⟨i+1,by omega,by go_num,by rw[HKS.out],by first|rfl|trivial⟩
   case measure=>simp[intOf];omega
  ·have hnl:¬(i:Int)<(m:Int):=by omega
   have hie:i=m:=by omega
   subst hie;go_wp2;go_ret;exact⟨rfl,rfl⟩
def NE (w:World) (m g:Nat) (la:Option Addr) (lc:Nat) (pa:Option Addr) (pc:Nat) (A:Nat→Nat→Option Addr) (C:Nat→Nat→Nat) (RA:Nat→Option Addr) (RC:Nat→Nat) (L:Nat→List T) (P:Nat→Nat→List T) (k:Int):Prop:=
 eH w la m lc (fun i=>A i 0) (lN L) (fun i=>C i 0) (fun i=>mk (dK k (lN L) i))∧NH w pa m pc RA RC (fun i j=>A i (j+1)) (fun i j=>C i (j+1)) (fun _=>g) (fun i=>lN (P i)) (fun i j=>mk (dK (kR (dK k (lN L) m) g P i) (lN (P i)) j))
theorem NE.below {w w':World} {m g:Nat} {la:Option Addr} {lc:Nat} {pa:Option Addr} {pc:Nat} {A:Nat→Nat→Option Addr} {C:Nat→Nat→Nat} {RA:Nat→Option Addr} {RC:Nat→Nat} {L:Nat→List T} {P:Nat→Nat→List T} {k:Int} (h:NE w m g la lc pa pc A C RA RC L P k) (hb:Below w.heap.size w w'):NE w' m g la lc pa pc A C RA RC L P k:=⟨h.1.below hb,h.2.below hb⟩
theorem lF.rows {lo:Nat} {w:World} {m g:Nat} {la:Option Addr} {lc:Nat} {pa:Option Addr} {pc:Nat} {A:Nat→Nat→Option Addr} {C:Nat→Nat→Nat} {RA:Nat→Option Addr} {RC:Nat→Nat} {L:Nat→List T} {P:Nat→Nat→List T} (h:lF lo w m g la lc pa pc A C RA RC L P):NI lo w pa m g RA RC (fun i j=>A i (j+1)) (fun i j=>C i (j+1)) P:=
 ⟨h.pr.imp id (fun⟨off,e,_,l2,hc⟩=>⟨off,e,l2,hc⟩),h.rw,fun i j hi hj h0=>⟨(h.ne i (j+1) hi hj h0).2.1,fun x hx=>(h.ne i (j+1) hi hj h0).2.2 x hx (by omega)⟩,fun i j x y hi hj hx hy hne n1 n2=>h.ap i (j+1) x (y+1) hi hj hx hy (.inl hne) n1 n2⟩
theorem lF.only {lo:Nat} {w w':World} {m g:Nat} {la:Option Addr} {lc:Nat} {pa:Option Addr} {pc:Nat} {A:Nat→Nat→Option Addr} {C:Nat→Nat→Nat} {RA:Nat→Option Addr} {RC:Nat→Nat} {L:Nat→List T} {P:Nat→Nat→List T} (h:lF lo w m g la lc pa pc A C RA RC L P) (ho:fV (fun b=>∃i,i<m∧lN L i≠0∧cH (A i 0)=b) w w'):NI lo w' pa m g RA RC (fun i j=>A i (j+1)) (fun i j=>C i (j+1)) P:=by
 have r:=h.rows;have n1:¬(fun b=>∃i,i<m∧lN L i≠0∧cH (A i 0)=b) (cH pa):=fun⟨x,hx,h0,e2⟩=>(h.ne x 0 hx (Nat.zero_le _) h0).2.1 e2
 have n2:∀i,i<m→g=0∨¬(fun b=>∃i,i<m∧lN L i≠0∧cH (A i 0)=b) (cH (RA i)):=fun i hi=>by
  by_cases g0:g=0
  ·exact .inl g0
  ·exact .inr (fun⟨x,hx,h0,e2⟩=>(h.ne x 0 hx (Nat.zero_le _) h0).2.2 i hi g0 e2)
 have n3:∀i,i<m→∀j,j<g→lN (P i) j=0∨¬(fun b=>∃i,i<m∧lN L i≠0∧cH (A i 0)=b) (cH (A i (j+1))):=fun i hi j hj=>by
  by_cases p0:lN (P i) j=0
  ·exact .inl p0
  ·exact .inr (fun⟨x,hx,h0,e2⟩=>h.ap x 0 i (j+1) hx (Nat.zero_le _) hi hj (.inr (by omega)) h0 p0 e2)
 exact⟨r.pr.imp id (fun⟨off,e,l2,hc⟩=>⟨off,e,by rw[ho.size];exact l2,fun i hi=>(ho.cell l2 n1).trans (hc i hi)⟩),fun i hi=>ho.outs (r.rw i hi) (n2 i hi) (n3 i hi),r.ne,r.ap⟩
theorem lF.list {lo:Nat} {w w1 w2:World} {m g:Nat} {la:Option Addr} {lc:Nat} {pa:Option Addr} {pc:Nat} {A:Nat→Nat→Option Addr} {C:Nat→Nat→Nat} {RA:Nat→Option Addr} {RC:Nat→Nat} {L:Nat→List T} {P:Nat→Nat→List T} (h:lF lo w m g la lc pa pc A C RA RC L P) (ho:fV (KD m g (fun i j=>A i (j+1)) P) w1 w2) {f:Nat→Nat→T} (hr:eH w1 la m lc (fun i=>A i 0) (lN L) (fun i=>C i 0) f):eH w2 la m lc (fun i=>A i 0) (lN L) (fun i=>C i 0) f:=by
 refine ho.rds hr (.inr ?_) (fun i hi=>?_)
 ·rintro⟨x,y,hx,hy,h0,e⟩;exact(h.ne x (y+1) hx hy h0).1 e
 ·by_cases p0:lN L i=0
  ·exact .inl p0
  ·exact .inr (fun⟨x,y,hx,hy,h0,e⟩=>h.ap x (y+1) i 0 hx hy hi (Nat.zero_le _) (.inr (by omega)) h0 p0 e)
def WV (m g:Nat) (A:Nat→Nat→Option Addr) (L:Nat→List T) (P:Nat→Nat→List T) (b:Nat):Prop:=∃i s,i<m∧s≤g∧(jI (L i) (P i) s).length≠0∧cH (A i s)=b
theorem lF.op {lo:Nat} {w:World} {m g:Nat} {la:Option Addr} {lc:Nat} {pa:Option Addr} {pc:Nat} {A:Nat→Nat→Option Addr} {C:Nat→Nat→Nat} {RA:Nat→Option Addr} {RC:Nat→Nat} {L:Nat→List T} {P:Nat→Nat→List T} (h:lF lo w m g la lc pa pc A C RA RC L P) {b:Nat} (hb:WV m g A L P b):lo≤b∧b<w.heap.size:=by
 obtain⟨i,s,hi,hs,h0,rfl⟩:=hb;cases s with
 |zero=>exact⟨pY h.ls hi h0,BU (h.ls.rd.2.2.2 i hi) h0⟩
 |succ s=>exact⟨pY (h.rw i hi) hs h0,BU ((h.rw i hi).rd.2.2.2 s hs) h0⟩
theorem PC (lo:Nat) (w:World) (m g:Nat) (la:Option Addr) (lc:Nat) (pa:Option Addr) (pc:Nat) (A:Nat→Nat→Option Addr) (C:Nat→Nat→Nat) (RA:Nat→Option Addr) (RC:Nat→Nat) (L:Nat→List T) (P:Nat→Nat→List T) (d:Bool) (h:lF lo w m g la lc pa pc A C RA RC L P) (hm:m≤12) (hg:g≤12) (hl:∀i,i<m→lN L i≤1048576) (hp:∀i,i<m→∀j,j<g→lN (P i) j≤1048576):Calls Tryz.prog 14 #[.agg #[.slice la m lc,.slice pa m pc,.bool d],.int .i64 1] w fun r w'=>r= .returned (.int .i64 (kR (dK 1 (lN L) m) g P m))∧Fr (WV m g A L P) w w'∧NE w' m g la lc pa pc A C RA RC L P 1:=by
 have bx:=aC w (.cells #[.slice la m lc,.slice pa m pc,.bool d] 27);have HB0:=aA bx
 have HH0:=aA h;have HH:=aA (h.below bx)
 have HL:=aA hl;have HP:=aA hp
 have hkb:=kZ (k:=1) hl m (Nat.le_refl _);have h3:(w.alloc (.cells #[.slice la m lc,.slice pa m pc,.bool d] 27)).cell? ⟨w.heap.size,1,none⟩=some (.slice pa m pc):=by rw[World.cell?_alloc_at _ _ _ _ rfl];rfl
 have hsz:w.heap.size<(w.alloc (.cells #[.slice la m lc,.slice pa m pc,.bool d] 27)).heap.size:=by simp
 obtain⟨y,hy⟩:∃y,dK 1 (lN L) m=y:=⟨_,rfl⟩
 rw[hy]at hkb;have HY:=aA hy
 have HX:=aA (And.intro h3 hsz);clear h hl hp bx h3 hsz hy;rw[HY.out];go_enter Tryz.func14,Tryz.ntmps14;go_wp2_with fail;generalize(w.alloc (.cells #[.slice la m lc,.slice pa m pc,.bool d] 27))=w0 at *;refine(vR lo w0 la m lc _ _ _ _ (cH la) _ 1 HH.out.ls (by omega) HL.out (by omega) (by omega)).mono ?_;rw[HY.out];rintro e w1 ⟨rfl,ho,hr⟩;have HO1:=aA ho
 have HR1:=aA hr;have nin:∀i,i<m→lN L i≠0→cH (A i 0)≠w.heap.size:=fun i hi h0=>by have h1:cH (A i 0)<w.heap.size:=BU (HH0.out.ls.rd.2.2.2 i hi) h0;omega
 have c1:w1.cell? ⟨w.heap.size,1,none⟩=some (.slice pa m pc):=(ho.cell HX.out.2 (fun⟨i,hi,h0,e⟩=>nin i hi h0 e)).trans HX.out.1;have HRW:=aA (HH.out.only ho)
 clear ho hr nin;go_wp2_with fail;refine(PD lo w1 pa m pc g RA RC _ _ P y HRW.out hm hg HP.out (by omega) (by omega)).mono ?_;rintro e w2 ⟨rfl,ho,hr⟩;have HO2:=aA ho
 have HR2:=aA hr;have HR1b:=aA (HH.out.list ho HR1.out)
 clear ho hr c1;go_wp2;go_ret;have p1:∀b,(∃i,i<m∧lN L i≠0∧cH (A i 0)=b)→WV m g A L P b:=fun b ⟨i,hi,h0,e⟩=>⟨i,0,hi,Nat.zero_le _,h0,e⟩
 have p2:∀b,KD m g (fun i j=>A i (j+1)) P b→WV m g A L P b:=fun b ⟨i,j,hi,hj,h0,e⟩=>⟨i,j+1,hi,hj,h0,e⟩
 refine⟨rfl,((aO HB0.out).trans ((HO1.out.mono (P':=WV m g A L P) p1).fr)).trans ((HO2.out.mono (P':=WV m g A L P) p2).fr),HR1b.out,HH.out.cap,HH.out.ls.rd.2.1,?_,fun i hi=>?_⟩
 ·rcases HRW.out.pr with z0|⟨off,e,l2,hc⟩
  ·exact .inl z0
  ·exact .inr ⟨_,off,e,by rw[HO2.out.size];exact l2,fun i hi=>(HO2.out.cell l2 (fun⟨x,y,hx,hy,h0,e2⟩=>(HRW.out.ne x y hx hy h0).1 e2)).trans (hc i hi)⟩
 ·rw[HY.out];exact HR2.out i hi
theorem CT (w:World) (m g:Nat) (la:Option Addr) (lc:Nat) (pa:Option Addr) (pc:Nat) (A:Nat→Nat→Option Addr) (C:Nat→Nat→Nat) (RA:Nat→Option Addr) (RC:Nat→Nat) (L:Nat→List T) (P:Nat→Nat→List T) (d:Bool) (h:NE w m g la lc pa pc A C RA RC L P 1) (hm:m≤12) (hg:g≤12) (hl:∀i,i<m→lN L i≤1048576) (hp:∀i,i<m→∀j,j<g→lN (P i) j≤1048576):Calls Tryz.prog 15 #[.agg #[.slice la m lc,.slice pa m pc,.bool d],.int .i64 1] w fun r w'=>r= .returned (.int .i64 (kR (dK 1 (lN L) m) g P m))∧Below w.heap.size w w':=by
 have bx:=aC w (.cells #[.slice la m lc,.slice pa m pc,.bool d] 27);have HB0:=aA bx
 have HH:=aA (h.below bx);have HL:=aA hl
 have HP:=aA hp;have hkb:=kZ (k:=1) hl m (Nat.le_refl _)
 have c1:(w.alloc (.cells #[.slice la m lc,.slice pa m pc,.bool d] 27)).cell? ⟨w.heap.size,1,none⟩=some (.slice pa m pc):=by rw[World.cell?_alloc_at _ _ _ _ rfl];rfl
 obtain⟨y,hy⟩:∃y,dK 1 (lN L) m=y:=⟨_,rfl⟩
 rw[hy]at hkb;have HY:=aA hy
 have hkr:=CU (k:=y) hg hp m (Nat.le_refl _);obtain⟨y2,hy2⟩:∃y2,kR y g P m=y2:=⟨_,rfl⟩
 rw[hy2]at hkr;have HY2:=aA hy2
 have n1:¬y<0:=by omega
 have n1':decide (y<0)=false:=decide_eq_false n1;have n2:¬y2<0:=by omega
 have n2':decide (y2<0)=false:=decide_eq_false n2;clear h hl hp bx hy hy2;rw[HY.out,HY2.out];go_enter Tryz.func15,Tryz.ntmps15;go_wp2_with fail;generalize(w.alloc (.cells #[.slice la m lc,.slice pa m pc,.bool d] 27))=w0 at *;refine(yC w0 la m lc _ _ _ 1 HH.out.1 (by omega) HL.out (by omega) (by omega)).mono ?_;rw[HY.out];rintro e w' ⟨rfl,hw'⟩;obtain rfl:=hw'.symm;clear hw';have HR3:=aA HH.out.2
 go_wp2_with fail;refine(OP w0 pa m pc g RA RC _ _ P y (by rw[←HY.out];exact HR3.out) hm hg HP.out (by omega) (by omega)).mono ?_;rw[HY2.out];rintro e w' ⟨rfl,hw'⟩;obtain rfl:=hw'.symm;clear hw';go_wp2;go_ret;exact⟨rfl,HB0.out⟩
def qI (w:World) (a:Option Addr) (n cap:Nat) (ad:Nat→Option Addr) (ln cp:Nat→Nat) (f:Nat→Nat→T):Prop:=
 n≤cap∧cap≤maxLen∧(n=0∨∃b off,a=some ⟨b,off,none⟩∧b<w.heap.size∧∀i,i<n→w.cell? ⟨b,off+i,none⟩=some (.slice (ad i) (ln i) (cp i)))∧∀i,i<n→oI w (ad i) (ln i) (cp i) (f i)
theorem qI.rd {w:World} {a:Option Addr} {n cap:Nat} {ad:Nat→Option Addr} {ln cp:Nat→Nat} {f:Nat→Nat→T} (h:qI w a n cap ad ln cp f) (hn:n*40≤140737488351232) (hl:∀i,i<n→ln i*40≤140737488351232):eH w a n cap ad ln cp f:=
 ⟨h.1,hn,h.2.2.1,fun i hi=>(h.2.2.2 i hi).rd (hl i hi)⟩
theorem NU:Tryz.prog.cellsOf 56=1:=by kernel_rfl
theorem xI {H:Type} {enc:TypeId×Value→H} {w:World} {base:Nat} {spare:Nat→Bool} {held:Bool} {fuel:Nat} {v:Value} {x:DataW H×List MemPlace} (h:DataW.trod enc Tryz.prog w base spare held fuel 56 [v]=some x):∃(t:Option Addr×Nat×Nat) (f:Nat→T),v= .slice t.1 t.2.1 t.2.2∧oI w t.1 t.2.1 t.2.2 f:=by
 have h':=h;rcases open_slice Tryz.underlying56 h with⟨hc,_⟩|⟨ad,len,cp,m,k,D,Pl,hc,_⟩
 ·simp at hc;subst hc;obtain⟨f,hf⟩:=wQ h';exact⟨(none,0,0),f,rfl,hf⟩
 ·simp at hc;subst hc;obtain⟨f,hf⟩:=wQ h';exact⟨(some ad,len,cp),f,rfl,hf⟩
theorem FR {H:Type} {enc:TypeId×Value→H} {w:World} {base:Nat} {spare:Nat→Bool} {held:Bool} {fuel:Nat} {a:Option Addr} {n cap:Nat} {x:DataW H×List MemPlace} (h:DataW.trod enc Tryz.prog w base spare held fuel 22 [.slice a n cap]=some x):∃ad ln cp f,qI w a n cap ad ln cp f:=by
 rcases open_slice Tryz.underlying22 h with⟨hc,_⟩|⟨ad,len,cp,m,k,D,Pl,hc,_,hl,hm,hmm,_,hx⟩
 ·simp at hc;obtain⟨rfl,rfl,rfl⟩:=hc;exact⟨fun _=>none,fun _=>0,fun _=>0,fun _ _=>⟨0,⟨0,0,0,0⟩⟩,Nat.le_refl _,Nat.zero_le _,.inl rfl,fun i hi=>absurd hi (EZ _)⟩
 ·simp at hc;obtain⟨rfl,rfl,rfl⟩:=hc;by_cases h0:n=0
  ·exact⟨fun _=>none,fun _=>0,fun _=>0,fun _ _=>⟨0,⟨0,0,0,0⟩⟩,hl,hm,.inl h0,fun i hi=>by omega⟩
  have hnm:n≤m:=by rw[hmm];split<;>omega
  have each:∀i,i<n→∃t:(Option Addr×Nat×Nat)×(Nat→T),w.cell? (ad.add i)=some (.slice t.1.1 t.1.2.1 t.1.2.2)∧oI w t.1.1 t.1.2.1 t.1.2.2 t.2:=by
   intro i hi;obtain⟨cs',h1,h2⟩:=hx i (by omega);rw[NU]at h1;obtain⟨_,hlen,hcell⟩:=World.cells?_some h1;match cs',hlen with
   |[v0],_=>
    obtain⟨t,f,rfl,ht⟩:=xI h2;have c0:=hcell 0 (by omega)
    rw[add_add]at c0;exact⟨(t,f),by simpa using c0,ht⟩
  haveI:Inhabited ((Option Addr×Nat×Nat)×(Nat→T)):=⟨((none,0,0),fun _=>⟨0,⟨0,0,0,0⟩⟩)⟩
  obtain⟨q,hq⟩:=choose_lt each;obtain⟨b,off,spot⟩:=ad;have hs:spot=none:=by have:=World.cell?_spot (hq 0 (by omega)).1;simpa[Addr.add]using this
  subst hs;have hadd:∀j,(⟨b,off,none⟩:Addr).add j=⟨b,off+j,none⟩:=fun j=>by unfold Addr.add;split<;>simp_all
  refine⟨fun i=>(q i).1.1,fun i=>(q i).1.2.1,fun i=>(q i).1.2.2,fun i=>(q i).2,hl,hm,.inr ⟨b,off,rfl,?_,fun i hi=>?_⟩,fun i hi=>(hq i hi).2⟩
  ·have:=cQ w _ (hq 0 (by omega)).1;rw[hadd]at this;exact this
  ·have:=(hq i hi).1;rw[hadd]at this;exact this
end Go.Proofs.YtelkehjdfcoeiaaGreat
