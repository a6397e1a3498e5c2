/-
  What the exact laws lean on besides: terms in memory behind marks elsewhere.
-/
import Derived.Test.YtncffcaabnjioaaGreatMaf
set_option maxHeartbeats 4000000
set_option maxRecDepth 100000
namespace Go.Proofs.YtncffcaabnjioaaGreat
open Go.RowKit
set_option linter.unusedVariables false
theorem Wr.grown {w w':World} {a:Option Addr} {n:Nat} {f:Nat→T} {row:Option Nat} (h:Wr w a n f) (hg:w.grownBy w' row) (hne:n=0∨∀b off,a=some ⟨b,off,none⟩→some b≠row):Wr w' a n f:=by
 rcases h with h0|⟨g,off,N,F,rfl,hR,hN,hF⟩
 ·exact .inl h0
 ·rcases hne with h0|hne
  ·exact .inl h0
  ·exact .inr ⟨g,off,N,F,rfl,hR.of_block (hg.block g hR.lt (hne g off rfl)),hN,hF⟩
theorem Own.wr {w:World} {g n:Nat} {f:Nat→T} (h:Own w g n f):Wr w (some ⟨g,0,none⟩) n f:=
 .inr ⟨g,0,n*5,cf f,rfl,h,by omega,fun j hj=>by rw[Nat.zero_add]⟩
theorem Wr.rd {w:World} {a:Option Addr} {n cap:Nat} {f:Nat→T} (h:Wr w a n f) (hc:n≤cap) (hn:n*40≤140737488351232):Rd w a n cap f:=by
 refine⟨hc,hn,?_⟩;rcases h with h0|⟨g,off,N,F,rfl,hR,hN,hF⟩
 ·exact .inl h0
 ·have hcell:∀j,j<n*5→w.cell? ⟨g,off+j,none⟩=some (cf f j):=fun j hj=>by rw[hR.cell (by omega),hF j hj]
  refine .inr ⟨g,off,rfl,hR.lt,fun i hi=>?_⟩;have e1:off+i*5+1=off+(i*5+1):=by omega
  have e2:off+i*5+2=off+(i*5+2):=by omega
  have e3:off+i*5+3=off+(i*5+3):=by omega
  have e4:off+i*5+4=off+(i*5+4):=by omega
  exact⟨by rw[hcell _ (by omega),cf0],by rw[e1,hcell _ (by omega),TD],by rw[e2,hcell _ (by omega),TE],by rw[e3,hcell _ (by omega),YN],by rw[e4,hcell _ (by omega),YO]⟩
theorem kH {w w1 w2:World} {row:Option Nat} (h:Below w.heap.size w w1) (hg:w1.grownBy w2 row) (hr:∀k,row=some k→w.heap.size≤k):Below w.heap.size w w2:=h.grown hg h.size hr
def vQ (a:Option Addr) (n B:Nat):Prop:=n=0∨∀b off,a=some ⟨b,off,none⟩→b<B
def SR (a:Option Addr) (n B:Nat):Prop:=n=0∨∀b off,a=some ⟨b,off,none⟩→B≤b
theorem Rd.under {w:World} {a:Option Addr} {n cap:Nat} {f:Nat→T} (h:Rd w a n cap f):vQ a n w.heap.size:=by
 rcases h.2.2 with h0|⟨b,off,rfl,hlt,_⟩
 ·exact .inl h0
 ·exact .inr fun b' off' e=>by cases e;exact hlt
theorem lI.from {lo:Nat} {w:World} {a:Option Addr} {cap:Nat} {L:List T} (h:lI lo w a cap L):SR a L.length lo:=by
 rcases h.2.2 with h0|⟨g,off,rfl,hlo⟩
 ·exact .inl h0
 ·exact .inr fun b' off' e=>by cases e;exact hlo
theorem vQ.off {a:Option Addr} {n B X:Nat} (h:vQ a n B) (hX:B≤X):n=0∨∀b off,a=some ⟨b,off,none⟩→some b≠some X:=by
 rcases h with h0|h
 ·exact .inl h0
 ·exact .inr fun b off e=>by have:=h b off e;simp;omega
theorem SR.off {a:Option Addr} {n B X:Nat} (h:SR a n B) (hX:X<B):n=0∨∀b off,a=some ⟨b,off,none⟩→some b≠some X:=by
 rcases h with h0|h
 ·exact .inl h0
 ·exact .inr fun b off e=>by have:=h b off e;simp;omega
theorem vQ.mono {a:Option Addr} {n B B':Nat} (h:vQ a n B) (hB:B≤B'):vQ a n B':=by
 rcases h with h0|h
 ·exact .inl h0
 ·exact .inr fun b off e=>lG (h b off e) hB
theorem apart {a c:Option Addr} {n m B:Nat} (h:vQ a n B) (k:SR c m B) (hm:m≠0) {w:World} {f:Nat→T} (hw:Wr w c m f):n=0∨∀b off,a=some ⟨b,off,none⟩→some b≠c.map (·.block):=by
 rcases h with h0|h
 ·exact .inl h0
 ·rcases k with k0|k
  ·exact absurd k0 hm
  ·rcases hw with w0|⟨g,off,N,F,rfl,_⟩
   ·exact absurd w0 hm
   ·exact .inr fun b off' e=>by
     have h1:=h b off' e;have h2:=k g off rfl
     simp;omega
def iJ (c:Int) (m:M):List T:=if(1≤c∧c≤100)∧m.ok=true then[⟨c,m⟩]else[]
def MN (c:Int) (f:Nat→T) (k:Nat):List T:=(List.range k).map fun i=>⟨c*(f i).c%101,(f i).m⟩
theorem VK (c:Int) (f:Nat→T) (k:Nat):(MN c f k).length=k:=by simp[MN]
theorem RE (c:Int) (f:Nat→T) (k:Nat):MN c f (k+1)=MN c f k++[⟨c*(f k).c%101,(f k).m⟩]:=by simp[MN,List.range_succ]
theorem OR (w:World) (c:Int) (a:Option Addr) (n cap:Nat) (f:Nat→T) (h:Rd w a n cap f) (hc0:0≤c) (hc1:c≤100) (hl:n≤1000000) (hcf:∀i,i<n→0≤(f i).c∧(f i).c≤100):Calls Tryz.prog 112 #[.int .i64 c,.slice a n cap] w fun r w'=>∃v,r= .returned v∧Below w.heap.size w w'∧w'.ownsRow w.heap.size 47 5 v (if c=0 then 0 else n) (aF (MN c f (if c=0 then 0 else n))):=by
 obtain⟨i0,hi0,hz0,hz1,hz2⟩:=info_parts yP;obtain⟨h1,h2,h3⟩:=h;have hn:(n:Int)≤1000000:=by omega
 by_cases hz:c=0
 ·rw[if_pos hz];subst hz;go_enter Tryz.func112,Tryz.ntmps112;go_wp2;go_loopw [5,6] (fun v i wr=>v= .slice (some ⟨w.heap.size,0,none⟩) 0 0∧i= .int .i64 0∧wr=w.alloc (.cells #[] 47)) (fun _ _ _=>0);case atStart=>exact⟨rfl,rfl,rfl⟩
  case round=>
   obtain⟨rfl,rfl,rfl⟩:=hrel;by_cases hn0:n=0
   ·subst hn0;go_wp2;go_ret;exact⟨_,rfl,(cE _ _).alloc (Nat.le_refl _) _,cD w _ (Nat.le_refl _)⟩
   ·have hnp:(0:Int)<(n:Int):=by omega
    have dn:decide ((0:Int)<(n:Int))=true:=decide_eq_true hnp;go_wp2;go_ret;exact⟨_,rfl,(cE _ _).alloc (Nat.le_refl _) _,cD w _ (Nat.le_refl _)⟩
 ·rw[if_neg hz];have hcb:(c !=0)=true:=by simp[hz]
  clear hz;go_enter Tryz.func112,Tryz.ntmps112;go_wp2;go_loopw [5,6] (fun v i wr=>∃k:Nat,k≤n∧i= .int .i64 k∧Below w.heap.size w wr∧wr.ownsRow w.heap.size 47 5 v k (aF (MN c f k))) (fun _ i _=>n-(intOf i).toNat);case atStart=>exact⟨0,gL _,rfl,(cE _ _).alloc (Nat.le_refl _) _,cD w _ (Nat.le_refl _)⟩
  case round=>
   obtain⟨k,hk,rfl,hB,hown⟩:=hrel;by_cases hlt:k<n
   ·rcases h3 with h0|⟨b,off,rfl,hblt,hcl⟩
    ·omega
    have hkn:(k:Int)<(n:Int):=by omega
    have hbr:b<wr.heap.size:=lG hblt hB.size;obtain⟨g0,g1,g2,g3,g4⟩:=(hcl k hlt).below hB hblt;obtain⟨TD,TE⟩:=hcf k hlt;obtain⟨mb1,mb2⟩:=nE hc0 hc1 TD TE;have HV:Hid ((IntKind.i64.wrap (c*(f k).c)).tmod 101=c*(f k).c%101):=by show _=_;rw[show IntKind.i64.wrap (c*(f k).c)=c*(f k).c by rw[IntKind.wrap_i64];omega,Int.tmod_eq_emod_of_nonneg mb1]
    have HO:=aA hown;clear hcl hcf hown;go_wp2_with fail
    go_region_held3 (fun u=>u.cell? ⟨b,off+k*5,none⟩=some (.int .i64 (f k).c)∧u.cell? ⟨b,off+k*5+1,none⟩=some (.int .i64 (f k).m.x)∧u.cell? ⟨b,off+k*5+2,none⟩=some (.int .i64 (f k).m.y)∧u.cell? ⟨b,off+k*5+3,none⟩=some (.int .i64 (f k).m.d)∧u.cell? ⟨b,off+k*5+4,none⟩=some (.int .i64 (f k).m.e)) (first|go_keep|(refine⟨?_,?_,?_,?_,?_⟩<;>(rw[hgrow.cell_far _ (by simp;omega) (by intro hh;exact absurd (HO.out.lt b hh.symm).1 (by omega))];go_simp))) ((refine step_append_lies _ (by rfl) (.tmp 18) (.tmp 33) 24 (by rfl) w.heap.size 47 i0 _ 5 40 Tryz.underlying24 hi0 hz0 hz1 hz2 rfl (by omega) _ k (aF (MN c f k)) (by rfl) (by first|exact HO.out.alloc _|exact(dW HO.out (cE _ _).drew).alloc _) ⟨wr.heap.size,0,none⟩ 1 1 (aF [⟨c*(f k).c%101,(f k).m⟩]) (by rfl) (by rw[aU];rfl) (by rw[dG];simp only;rw[←HV.out];exact World.news_of_block (heap_alloc_new wr _)) (dN _) (by omega) (by unfold maxLen;omega) (by omega) (by have:=hB.size;simp;omega) _ (by rfl) ?_;intro g0 cap0 w1 hown1 hgrow hat hlt1))
    have HB:=aA (((hB.alloc hB.size _).drew).grown hgrow (jW hB.size (by simp)) (fun j hj=>(HO.out.lt j hj).1));have HP:=aA hown1
    clear hown1 hgrow hat hlt1 HO;go_wp2;go_roundw;case rel=>exact⟨k+1,by omega,by go_num,HB.out,by rw[RE,bF];exact HP.out⟩
    case measure=>simp[intOf];omega
   ·have hkn:k=n:=by omega
    subst hkn;have HO:=aA hown
    clear hown hcf;go_wp2;go_ret;exact⟨_,rfl,hB,HO.out⟩
theorem wO (c:Int) (f:Nat→T) (n i:Nat) (h:i<n):lf (MN c f n) i=⟨c*(f i).c%101,(f i).m⟩:=by simp[lf,MN,List.getD,List.getElem?_map,List.getElem?_range h]
def uT (g:Nat→T) (lb:Nat):Nat→T:=lf (MN 100 g lb)
def iS (f:Nat→T) (la:Nat) (g:Nat→T) (lb:Nat):List T×Bool:=
 if aN la f=true∧aN lb g=true∧(eI f la (uT g lb) lb 0 0).length≤400 then(eI f la (uT g lb) lb 0 0,true)else([],false)
theorem wT (f:Nat→T) (la:Nat) (g:Nat→T) (lb:Nat):(iS f la g lb).1.length≤400:=by
 unfold iS;split
 ·rename_i h;exact h.2.2
 ·simp
theorem sJ {n:Nat} {f:Nat→T} (h:aN n f=true):∀i,i<n→(f i).m.ok=true:=by
 intro i hi;simp only[aN,decide_eq_true_eq]at h;have:=h.2 i hi
 simp only[jQ,Bool.and_eq_true,decide_eq_true_eq]at this;exact this.1.2
def aV (o:Int) (f:Nat→T):Nat→Nat→Nat→Nat
 |0,_,k=>k
 |u+1,i,k=>if 0<M.ord o (f i).m (f k).m then aV o f u (i+1) i else aV o f u (i+1) k
def aX (o:Int) (f:Nat→T) (n:Nat):Nat:=aV o f (n-1) 1 0
theorem sD (w:World) (o:Int) (a:Option Addr) (n cap:Nat) (f:Nat→T) (h:Rd w a n cap f) (h0:0<n) (hm:∀i,i<n→(f i).m.ok=true):Calls Tryz.prog 107 #[.int .i64 o,.slice a n cap] w fun r w'=>r= .returned (.agg #[.int .i64 (f (aX o f n)).c,.int .i64 (f (aX o f n)).m.x,.int .i64 (f (aX o f n)).m.y,.int .i64 (f (aX o f n)).m.d,.int .i64 (f (aX o f n)).m.e])∧Below w.heap.size w w':=by
 obtain⟨h1,h2,h3⟩:=h;have HM:=aA hm
 clear hm;have hn:(n:Int)≤140737488351232:=by omega
 obtain⟨b,off,rfl,hblt,hcl⟩:=h3.resolve_left (by omega);have HCL:=aA hcl
 clear h3 hcl;go_enter Tryz.func107,Tryz.ntmps107;go_wp2;go_loopw [5,6] (fun kk ii wr=>∃i k:Nat,1≤i∧i≤n∧k<n∧ii= .int .i64 i∧kk= .int .i64 k∧Below w.heap.size w wr∧(∀j,j<5→wr.cell? ⟨w.heap.size,j,none⟩=some (.int .i64 0))∧(∀j,wr.frozen? ⟨w.heap.size,j,none⟩=false)∧w.heap.size<wr.heap.size∧Hid (aV o f (n-i) i k=aX o f n)) (fun _ ii _=>n-(intOf ii).toNat)
 case atStart=>
  refine⟨1,0,Nat.le_refl _,h0,h0,rfl,rfl,(cE _ _).alloc (Nat.le_refl _) _,fun j hj=>?_,fun j=>by rw[World.frozen?_alloc_at _ _ _ _ rfl],by simp,rfl⟩;rw[World.cell?_alloc_at _ _ _ _ rfl];have h5:j=0∨j=1∨j=2∨j=3∨j=4:=by omega
  rcases h5 with rfl|rfl|rfl|rfl|rfl<;>rfl
 case round=>
  obtain⟨i,k,hi1,hi,hk,rfl,rfl,hB,hz,hfz,hsz,HL⟩:=hrel;have HZ:=aA hz
  have HFZ:=aA hfz;clear hz hfz;have hkn:(k:Int)<(n:Int):=by omega
  by_cases hlt:i<n
  ·have hin:(i:Int)<(n:Int):=by omega
   have hbr:b<wr.heap.size:=lG hblt hB.size;have ne:=cX.there wr
   have hci:=(HCL.out i hlt).below hB hblt;have hck:=(HCL.out k hk).below hB hblt
   have s1:∀u:cX wr,u.1.cell? ⟨b,off+i*5+1,none⟩=some (.int .i64 (f i).m.x):=fun u=>(u.cell hbr).trans hci.2.1;have s2:∀u:cX wr,u.1.cell? ⟨b,off+i*5+2,none⟩=some (.int .i64 (f i).m.y):=fun u=>(u.cell hbr).trans hci.2.2.1
   have s3:∀u:cX wr,u.1.cell? ⟨b,off+i*5+3,none⟩=some (.int .i64 (f i).m.d):=fun u=>(u.cell hbr).trans hci.2.2.2.1;have s4:∀u:cX wr,u.1.cell? ⟨b,off+i*5+4,none⟩=some (.int .i64 (f i).m.e):=fun u=>(u.cell hbr).trans hci.2.2.2.2
   have t1:∀u:cX wr,u.1.cell? ⟨b,off+k*5+1,none⟩=some (.int .i64 (f k).m.x):=fun u=>(u.cell hbr).trans hck.2.1;have t2:∀u:cX wr,u.1.cell? ⟨b,off+k*5+2,none⟩=some (.int .i64 (f k).m.y):=fun u=>(u.cell hbr).trans hck.2.2.1
   have t3:∀u:cX wr,u.1.cell? ⟨b,off+k*5+3,none⟩=some (.int .i64 (f k).m.d):=fun u=>(u.cell hbr).trans hck.2.2.2.1;have t4:∀u:cX wr,u.1.cell? ⟨b,off+k*5+4,none⟩=some (.int .i64 (f k).m.e):=fun u=>(u.cell hbr).trans hck.2.2.2.2
   have HO:Hid (o=3→(f i).m.ok=true∧(f k).m.ok=true):=fun _=>⟨HM.out i hlt,HM.out k hk⟩
   have keep:∀u:cX wr,(∀j,j<5→u.1.cell? ⟨w.heap.size,j,none⟩=some (.int .i64 0))∧(∀j,u.1.frozen? ⟨w.heap.size,j,none⟩=false)∧w.heap.size<u.1.heap.size:=fun u=>⟨fun j hj=>(u.cell hsz).trans (HZ.out j hj),fun j=>(u.2.frozen (p:=⟨w.heap.size,j,none⟩) hsz).trans (HFZ.out j),lG hsz u.2.size⟩
   have KP:=aA keep;clear hci hck keep;by_cases hq:0<M.ord o (f i).m (f k).m
   ·have dq:decide (0<M.ord o ⟨(f i).m.x,(f i).m.y,(f i).m.d,(f i).m.e⟩ ⟨(f k).m.x,(f k).m.y,(f k).m.d,(f k).m.e⟩)=true:=decide_eq_true hq;have HN:Hid (aV o f (n-(i+1)) (i+1) i=aX o f n):=by show _=_;rw[←HL.out,show n-i=(n-(i+1))+1 by omega,aV,if_pos hq]
    clear hq HL;go_wp2_with fail;refine aJ (by kernel_rfl) (by kernel_rfl) ?_;repeat(go_big_quiet_step (first|(go_at_call 84;exact aM (ZS _ _ _ _ _ _ _ _ _ _ HO.out))))
    refine wpQuiet_nil ?_;rintro _ ⟨u,rfl⟩;go_wp2;go_roundw;case rel=>exact⟨i+1,i,by omega,by omega,hlt,by go_num,by go_num,hB.trans (u.2.mono hB.size),(KP.out u).1,(KP.out u).2.1,(KP.out u).2.2,HN⟩
    case measure=>simp[intOf];omega
   ·have dq:decide (0<M.ord o ⟨(f i).m.x,(f i).m.y,(f i).m.d,(f i).m.e⟩ ⟨(f k).m.x,(f k).m.y,(f k).m.d,(f k).m.e⟩)=false:=decide_eq_false hq;have HN:Hid (aV o f (n-(i+1)) (i+1) k=aX o f n):=by show _=_;rw[←HL.out,show n-i=(n-(i+1))+1 by omega,aV,if_neg hq]
    clear hq HL;go_wp2_with fail;refine aJ (by kernel_rfl) (by kernel_rfl) ?_;repeat(go_big_quiet_step (first|(go_at_call 84;exact aM (ZS _ _ _ _ _ _ _ _ _ _ HO.out))))
    refine wpQuiet_nil ?_;rintro _ ⟨u,rfl⟩;go_wp2;go_roundw;case rel=>exact⟨i+1,k,by omega,by omega,hk,by go_num,by go_num,hB.trans (u.2.mono hB.size),(KP.out u).1,(KP.out u).2.1,(KP.out u).2.2,HN⟩
    case measure=>simp[intOf];omega
  ·have hkl:Hid (k=aX o f n):=by show _=_;rw[←HL.out,show n-i=0 by omega];rfl
   obtain⟨g0,g1,g2,g3,g4⟩:=(HCL.out k hk).below hB hblt;have z0:=HZ.out 0 (by omega)
   have z1:=HZ.out 1 (by omega);have z2:=HZ.out 2 (by omega)
   have z3:=HZ.out 3 (by omega);have z4:=HZ.out 4 (by omega)
   have fz:=HFZ.out;have hne:¬b=w.heap.size:=by omega
   clear HL;go_wp2;refine cB (v:=.agg #[.int .i64 (f k).c,.int .i64 (f k).m.x,.int .i64 (f k).m.y,.int .i64 (f k).m.d,.int .i64 (f k).m.e]) (by simp[results,Tryz.results107,go_sem, *]) rfl ⟨by rw[←hkl.out],?_⟩;exact bQ hB (Nat.le_refl _) _ _ _ _ _
def RL (w:World) (a:Option Addr) (c:Nat) (L:List T):Prop:=Rd w a L.length c (lf L)
theorem RL.below {w w':World} {a:Option Addr} {c:Nat} {L:List T} (h:RL w a c L) (hb:Below w.heap.size w w'):RL w' a c L:=Rd.below h hb
theorem iA {L:List T} {i:Nat} (h:i<L.length):lf L i=L[i]:=by unfold lf;rw[List.getD_eq_getElem?_getD,List.getElem?_eq_getElem h];rfl
theorem vD {w:World} {a:Option Addr} {n cap:Nat} {f:Nat→T} (h:Rd w a n cap f):∃L:List T,n=L.length∧RL w a cap L:=by
 refine⟨(List.range n).map f,by simp,?_⟩;have e:((List.range n).map f).length=n:=by simp
 have hf:∀i,i<n→lf ((List.range n).map f) i=f i:=fun i hi=>by rw[iA (by simpa using hi)];simp
 unfold RL;rw[e];refine⟨h.1,h.2.1,?_⟩;rcases h.2.2 with h0|⟨b,off,he,hlt,hc⟩
 ·exact .inl h0
 ·exact .inr ⟨b,off,he,hlt,fun i hi=>by rw[hf i hi];exact hc i hi⟩
def cT (L:List T):Bool:=aN L.length (lf L)
theorem aE {L:List T} (h:cT L=true):L.length≤400∧aK L:=by
 have hF:=dE h;have hl:L.length≤400:=by unfold cT at h;simp only[aN,decide_eq_true_eq]at h;exact h.1
 refine⟨hl,List.pairwise_iff_getElem.2 (fun i j hi hj hij=>?_),fun t ht=>?_⟩
 ·have:=hF.1 i j hij hj
  rwa[iA hi,iA hj]at this
 ·obtain⟨i,hi,rfl⟩:=List.mem_iff_getElem.1 ht;have:=hF.2 i hi
  rwa[iA hi]at this
theorem gJ {L:List T} (hl:L.length≤400) (h:aK L):cT L=true:=by
 unfold cT aN;rw[decide_eq_true_eq];refine⟨hl,fun i hi=>?_⟩;have h1:=h.2 (L[i]) (List.getElem_mem hi)
 simp only[jQ,Bool.and_eq_true,Bool.or_eq_true,decide_eq_true_eq];rw[iA hi];refine⟨⟨h1.2,h1.1⟩,?_⟩;by_cases h0:i=0
 ·exact .inl h0
 ·refine .inr ?_;have hi1:i-1<L.length:=by omega
  rw[iA hi1];exact(sE (h.2 _ (List.getElem_mem hi1)).1 h1.1).2 ((List.pairwise_iff_getElem.1 h.1) (i-1) i hi1 hi (by omega))
theorem pM:cT []=true:=gJ (by simp) eT
theorem oK (L K:List T):(cF L K).length≤L.length+K.length:=by have:=vS (lf L) L.length (lf K) K.length 0 0;simpa[cF]using this
theorem CL (m:M):aL [] m=0:=rfl
def kE (c:Int) (L:List T):List T:=MN c (lf L) L.length
theorem gA (c:Int) (L:List T):(kE c L).length=L.length:=VK _ _ _
theorem nS (c:Int) (L:List T):kE c L=L.map (fun t=>⟨c*t.c%101,t.m⟩):=by
 refine List.ext_getElem (by simp[gA]) (fun i h1 h2=>?_);have hi:i<L.length:=by rw[gA]at h1;exact h1
 rw[←iA h1,kE,wO _ _ _ _ hi,iA hi];simp
theorem gG {c:Int} {L:List T} (c1:1≤c) (c2:c≤100) (h:aK L):aK (kE c L):=by
 rw[nS];refine⟨by rw[List.pairwise_map];exact h.1,fun t ht=>?_⟩;obtain⟨s,hs,rfl⟩:=List.mem_map.1 ht;have hr:=h.2 s hs
 have hne:=IC (a:=c) (b:=s.c) (by omega) (by omega) (by omega) (by omega);rw[iD (by omega) c2 (by omega) hr.2.2]at hne;exact⟨hr.1,by show 1≤c*s.c%101;omega,by show c*s.c%101≤100;omega⟩
theorem RD (c:Int) (m:M):∀L:List T,aL (kE c L) m=c*aL L m%101:=by
 intro L;rw[nS];induction L with
 |nil=>simp[aL]
 |cons t r ih=>
  rw[List.map_cons,aL,aL];split
  ·rfl
  ·exact ih
def cQ (L K:List T):List T:=cF L (kE 100 K)
def xK (L K:List T):List T×Bool:=iS (lf L) L.length (lf K) K.length
theorem JM (L K:List T):eI (lf L) L.length (uT (lf K) K.length) K.length 0 0=cQ L K:=by unfold cQ cF;rw[gA];rfl
theorem JN {L K:List T} (hL:cT L=true) (hK:cT K=true) (h:(cQ L K).length≤400):xK L K=(cQ L K,true):=by unfold xK iS;rw[JM];exact if_pos ⟨hL,hK,h⟩
theorem tZ (L K:List T):xK L K=([],false)∨(cT L=true∧cT K=true∧(cQ L K).length≤400∧xK L K=(cQ L K,true)):=by
 by_cases h:cT L=true∧cT K=true∧(cQ L K).length≤400
 ·exact .inr ⟨h.1,h.2.1,h.2.2,JN h.1 h.2.1 h.2.2⟩
 ·refine .inl ?_;unfold xK iS;rw[JM];exact if_neg h
theorem xJ (L K:List T):(cQ L K).length≤L.length+K.length:=by have:=oK L (kE 100 K);rw[gA]at this;exact this
theorem cJ {L K:List T} (hL:aK L) (hK:aK K):aK (cQ L K)∧∀m,aL (cQ L K) m=(aL L m+100*aL K m%101)%101:=by
 have h:=cV hL (gG (c:=100) (by omega) (by omega) hK);refine⟨h.1,fun m=>?_⟩;show aL (cF L (kE 100 K)) m=_
 rw[h.2,RD]
theorem RZ {L:List T} (hL:aK L):cQ L L=[]:=by
 have h1:=cJ hL hL;refine mH h1.1 eT (fun m _=>?_);have r1:=bR hL m
 rw[h1.2,CL];omega
theorem uO {L K:List T} (hL:aK L) (hK:aK K):cQ L K=[]↔L=K:=by
 constructor
 ·intro h;have h1:=cJ hL hK
  refine mH hL hK (fun m _=>?_);have h2:=h1.2 m
  rw[h,CL]at h2;have r1:=bR hL m
  have r2:=bR hK m;omega
 ·intro h;rw[h];exact RZ hK
end Go.Proofs.YtncffcaabnjioaaGreat
