/-
  The first of some terms that is wanted, and whether there is one: the program.
-/
import Derived.Test.YtncffcaabnjioaaGreatMav
import Derived.Shelf.Abstract
set_option maxHeartbeats 8000000
set_option maxRecDepth 100000
namespace Go.Proofs.YtncffcaabnjioaaGreat
open Go.RowKit Go.Deep Go.Joins
set_option linter.unusedVariables false
def mZ (p:T→Bool) (f:Nat→T):Nat→Int
 |0=> -1
 |n+1=>if 0≤mZ p f n then mZ p f n else if p (f n)=true then(n:Int)else -1
theorem rV {p:T→Bool} {f:Nat→T}:∀{k:Nat},(∀j,j<k→p (f j)=false)→mZ p f k= -1
 |0,_=>rfl
 |k+1,h=>by have h1:=rV (p:=p) (f:=f) (k:=k) (fun j hj=>h j (by omega));unfold mZ;rw[h1,if_neg (by omega),if_neg (by rw[h k (by omega)];decide)]
theorem vB {p:T→Bool} {f:Nat→T} {k:Nat} (h:∀j,j<k→p (f j)=false) (hk:p (f k)=true):∀n,k<n→mZ p f n=(k:Int)
 |0,h0=>by omega
 |n+1,h0=>by
  by_cases e:k=n
  ·subst e;unfold mZ;rw[rV h,if_neg (by omega),if_pos hk]
  ·have h1:=vB h hk n (by omega);unfold mZ;rw[h1,if_pos (by omega)]
theorem AB {p:T→Bool} {f:Nat→T}:∀{n:Nat},0≤mZ p f n↔∃i,i<n∧p (f i)=true
 |0=>⟨fun h=>absurd (show(0:Int)≤ -1 from h) (by decide),fun⟨_,h,_⟩=>by omega⟩
 |n+1=>by
  have ih:=AB (p:=p) (f:=f) (n:=n);unfold mZ;by_cases h:0≤mZ p f n
  ·rw[if_pos h];exact⟨fun _=>by obtain⟨i,hi,hp⟩:=ih.1 h;exact⟨i,by omega,hp⟩,fun _=>h⟩
  ·rw[if_neg h];by_cases hp:p (f n)=true
   ·rw[if_pos hp];exact⟨fun _=>⟨n,by omega,hp⟩,fun _=>by omega⟩
   ·rw[if_neg hp];refine⟨fun hh=>absurd hh (by decide),fun⟨i,hi,hpi⟩=>?_⟩;by_cases e:i=n
    ·subst e;exact absurd hpi hp
    ·exact absurd (ih.2 ⟨i,by omega,hpi⟩) h
def WP (g:Nat) (lb:Array Value) (p:T→Bool) (Q:World→Prop) (f:Nat→T) (n:Nat):Prop:=
 ∀(k:Nat) (W:World),k<n→Q W→Calls Tryz.prog g (#[.agg #[.int .i64 (f k).c,.int .i64 (f k).m.x,.int .i64 (f k).m.y,.int .i64 (f k).m.d,.int .i64 (f k).m.e]]++lb) W fun r w'=>r= .returned (.bool (p (f k)))∧Below W.heap.size W w'
theorem Az (w:World) (a:Option Addr) (n cap:Nat) (f:Nat→T) (g:Nat) (lb:Array Value) (p:T→Bool) (Q:World→Prop) (eg:∀args w,(callFunc g args).run Tryz.prog w= .ok (.enter g args) w) (hW:WP g lb p Q f n) (hQ:∀W',Below w.heap.size w W'→Q W') (h:Rd w a n cap f):Calls Tryz.prog 116 #[.slice a n cap,.func (.func g) #[] lb] w fun r w'=>r= .returned (.int .i64 (mZ p f n))∧Below w.heap.size w w':=by
 have HA:=aA h;have HW:=aA hW
 have HQ:=aA hQ;have hn:(n:Int)≤140737488351232:=by have:=h.2.1;omega
 clear h hW hQ;go_enter Tryz.func116,Tryz.ntmps116;go_wp2;go_loopw [8] (fun v wr=>∃k:Nat,k≤n∧v= .int .i64 (k:Int)∧Below w.heap.size w wr∧∀j,j<k→p (f j)=false) (fun v _=>n-(intOf v).toNat);case atStart=>exact⟨0,gL _,rfl,cE _ _,fun j hj=>by omega⟩
 case round=>
  obtain⟨k,hk,rfl,hB,hJ⟩:=hrel;have HJ:=aA hJ
  have HB:=aA hB;clear hJ;by_cases hlt:k<n
  ·have hkn:(k:Int)<(n:Int):=by omega
   have hri:=HA.out.below hB;rcases hri.2.2 with h0|⟨b,off,hpe,hblt,hcl⟩
   ·omega
   obtain⟨g0,g1,g2,g3,g4⟩:=hcl k hlt;have HCALL:=aA (HW.out k wr hlt (HQ.out _ hB))
   clear hcl hri hB;subst hpe;cases hpk:p (f k)
   ·have HP:=aA hpk;go_wp2_with fail;refine HCALL.out.mono ?_;rw[hpk];rintro r w4 ⟨rfl,hb4⟩;have HB4:=aA (aB HB.out hb4)
    clear hb4 g0 g1 g2 g3 g4 hpk;go_wp2;go_roundw
    case rel=>exact⟨k+1,by omega,by go_num,HB4.out,fun j hj=>by
     by_cases e:j=k
     ·rw[e];exact HP.out
     ·exact HJ.out j (by omega)⟩
    case measure=>simp[intOf];omega
   ·have HE:Hid (mZ p f n=(k:Int)):=vB HJ.out hpk n hlt;go_wp2_with fail;refine HCALL.out.mono ?_;rw[hpk];rintro r w4 ⟨rfl,hb4⟩;have HB4:=aA (aB HB.out hb4)
    clear hb4 g0 g1 g2 g3 g4 hpk;go_wp2;go_ret;exact⟨congrArg (fun z=>Ending.returned (Value.int IntKind.i64 z)) HE.out.symm,HB4.out⟩
  ·have hnl:¬(k:Int)<(n:Int):=by omega
   have hie:k=n:=by omega
   subst hie;have HE:Hid (mZ p f k= -1):=rV HJ.out
   go_wp2;go_ret;exact⟨congrArg (fun z=>Ending.returned (Value.int IntKind.i64 z)) HE.out.symm,HB.out⟩
theorem XA (t:T) (m:M) (B:Nat) (W:World) (h:M4 W B m.x m.y m.d m.e):Calls Tryz.prog 117 #[.agg #[.int .i64 t.c,.int .i64 t.m.x,.int .i64 t.m.y,.int .i64 t.m.d,.int .i64 t.m.e],.pointer (some ⟨B,0,none⟩)] W fun r w'=>r= .returned (.bool (M.dvd t.m m))∧Below W.heap.size W w':=by
 obtain⟨bv,hbv⟩:∃bv,M.dvd ⟨t.m.x,t.m.y,t.m.d,t.m.e⟩ ⟨m.x,m.y,m.d,m.e⟩=bv:=⟨_,rfl⟩
 rw[show M.dvd t.m m=bv from hbv];have HD:=aA hbv
 have B1w:=aA (aC W (.cells #[.int .i64 t.c,.int .i64 t.m.x,.int .i64 t.m.y,.int .i64 t.m.d,.int .i64 t.m.e] 47));have hlt:=h.lt
 obtain⟨c1,c2,c3,c4⟩:=h;clear hbv;go_enter Tryz.func117,Tryz.ntmps117;go_wp2_with fail;refine(kZ HD.out _).mono ?_;rintro r w1 ⟨rfl,hb⟩;have HB:=aA (aB B1w.out hb)
 clear hb c1 c2 c3 c4;go_wp2;go_ret;exact⟨rfl,HB.out⟩
theorem MG (w:World) (a:Option Addr) (n cap:Nat) (f:Nat→T) (m:M) (h:Rd w a n cap f):Calls Tryz.prog 70 #[.slice a n cap,.agg #[.int .i64 m.x,.int .i64 m.y,.int .i64 m.d,.int .i64 m.e]] w fun r w'=>r= .returned (.int .i64 (mZ (fun t=>M.dvd t.m m) f n))∧Below w.heap.size w w':=by
 have HI:=aA (Az (w.alloc (.cells #[.int .i64 m.x,.int .i64 m.y,.int .i64 m.d,.int .i64 m.e] 45)) a n cap f 117 #[.pointer (some ⟨w.heap.size,0,none⟩)] (fun t=>M.dvd t.m m) (fun W=>M4 W w.heap.size m.x m.y m.d m.e) (enters_of Tryz.func117 (by kernel_rfl) rfl) (fun k W hk hQ=>XA (f k) m _ W hQ) (fun W' hb=>(M4.box w 45 m.x m.y m.d m.e).below hb) (h.below (aC w _)));have HB0:=aA (aC w (.cells #[.int .i64 m.x,.int .i64 m.y,.int .i64 m.d,.int .i64 m.e] 45))
 clear h;go_enter Tryz.func70,Tryz.ntmps70;go_wp2_with fail;refine HI.out.mono ?_;rintro r w1 ⟨rfl,hb⟩;have HB:=aA (aB HB0.out hb)
 clear hb HI HB0;go_wp2;go_ret;exact⟨rfl,HB.out⟩
def oC (o:Int) (ln:Nat→Nat) (f:Nat→Nat→T):Nat→List T
 |0=>[]
 |i+1=>oC o ln f i++[kV o ln f i]
theorem kW (o:Int) (ln:Nat→Nat) (f:Nat→Nat→T):∀i,(oC o ln f i).length=i
 |0=>rfl
 |i+1=>by unfold oC;rw[List.length_append,kW o ln f i];rfl
theorem vC (o:Int) (ln:Nat→Nat) (f:Nat→Nat→T):∀n i,i<n→lf (oC o ln f n) i=kV o ln f i
 |0,i,h=>by omega
 |n+1,i,h=>by
  have hl:=kW o ln f n;unfold oC lf;by_cases e:i=n
  ·subst e;rw[List.getD_eq_getElem?_getD,List.getElem?_append_right (by omega),hl];simp
  ·have:=vC o ln f n i (by omega);unfold lf at this;rw[List.getD_eq_getElem?_getD]at this⊢;rw[List.getElem?_append_left (by omega)];exact this
theorem qD (w:World) (o:Int) (a:Option Addr) (n cap:Nat) (ho:o<1∨3<o):Calls Tryz.prog 47 #[.int .i64 o,.slice a n cap] w fun r w'=>r= .returned (.tuple #[.slice none 0 0,.bool false])∧Below w.heap.size w w':=by
 go_enter Tryz.func47,Tryz.ntmps47;go_wp2_with fail;refine(nJ _ _ ho).mono ?_;rintro r w1 ⟨rfl,hb1⟩;have HB:=aA hb1
 clear hb1;go_wp2;refine cB (v:=.tuple #[.slice none 0 0,.bool false]) (by simp[results,Tryz.results47,go_sem, *]) rfl ⟨rfl,HB.out⟩
theorem sL (w:World) (o:Int) (a:Option Addr) (n cap:Nat) (ad:Nat→Option Addr) (ln cp:Nat→Nat) (f:Nat→Nat→T) (h:fZ w a n cap ad ln cp f) (o1:1≤o) (o2:o≤3) (hls:aW n ln f=false):Calls Tryz.prog 47 #[.int .i64 o,.slice a n cap] w fun r w'=>r= .returned (.tuple #[.slice none 0 0,.bool false])∧Below w.heap.size w w':=by
 have HH:=aA h;clear h;go_enter Tryz.func47,Tryz.ntmps47;go_wp2_with fail;refine(iB _ _ o1 o2).mono ?_;rintro r w1 ⟨fv,rfl,hb1⟩;have HB:=aA hb1
 have HR:=aA (HH.out.below hb1);clear hb1;go_wp2_with fail;refine(PB _ _ _ _ _ _ _ _ HR.out).mono ?_;rw[hls];rintro r w2 ⟨rfl,hb2⟩;have HB2:=aA (aB HB.out hb2)
 clear hb2;go_wp2;refine cB (v:=.tuple #[.slice none 0 0,.bool false]) (by simp[results,Tryz.results47,go_sem, *]) rfl ⟨rfl,HB2.out⟩
theorem tP (w:World) (o:Int) (a:Option Addr) (n cap:Nat) (ad:Nat→Option Addr) (ln cp:Nat→Nat) (f:Nat→Nat→T) (h:fZ w a n cap ad ln cp f) (o1:1≤o) (o2:o≤3) (hls:aW n ln f=true):Calls Tryz.prog 47 #[.int .i64 o,.slice a n cap] w fun r w'=>∃v,r= .returned (.tuple #[v,.bool true])∧Below w.heap.size w w'∧w'.ownsRow w.heap.size 47 5 v (oC o ln f n).length (aF (oC o ln f n)):=by
 obtain⟨i0,hi0,hz0,hz1,hz2⟩:=info_parts yP;have HH:=aA h
 have hall:=aT hls;have HO:=aA hall.2
 have hn:(n:Int)≤12:=by have:=hall.1;omega
 clear h hall;go_enter Tryz.func47,Tryz.ntmps47;go_wp2_with fail;refine(iB _ _ o1 o2).mono ?_;rintro r w1 ⟨fv,rfl,hb1⟩;have HB:=aA hb1
 have HR:=aA (HH.out.below hb1);clear hb1;go_wp2_with fail;refine(PB _ _ _ _ _ _ _ _ HR.out).mono ?_;rw[hls];rintro r w2 ⟨rfl,hb2⟩;have HB2:=aA (aB HB.out hb2)
 clear hb2 HB HR hls;go_wp2;go_loopw [8,27] (fun v i wr=>∃k:Nat,k≤n∧i= .int .i64 (k:Int)∧Below w.heap.size w wr∧wr.ownsRow w.heap.size 47 5 v (oC o ln f k).length (aF (oC o ln f k))) (fun _ i _=>n-(intOf i).toNat);case atStart=>exact⟨0,gL _,rfl,HB2.out,yZ w2 _⟩
 case round=>
  obtain⟨k,hk,rfl,hB,hown⟩:=hrel;have HB3:=aA hB
  have HO3:=aA hown;clear hown;by_cases hlt:k<n
  ·rcases HH.out.2.2.1 with h0|⟨b,off,rfl,hblt,hcl⟩
   ·omega
   have hkl:(k:Int)<(n:Int):=by omega
   have g0:wr.cell? ⟨b,off+k,none⟩=some (.slice (ad k) (ln k) (cp k)):=(hB.cell (p:=⟨b,off+k,none⟩) hblt).trans (hcl k hlt);have HK:=aA ((HH.out.2.2.2 k hlt).below hB)
   have hwl:=kW o ln f k;obtain⟨t,ht⟩:∃t,kV o ln f k=t:=⟨_,rfl⟩
   have HT:=aA ht;have hok:=HO.out k hlt
   have hlo:bH o (ln k) (f k)=true:=by unfold bH;rw[hok.2,decide_eq_true (show 1≤o∧o≤3 from⟨o1,o2⟩),decide_eq_true (show 0<ln k by omega)];rfl
   have hlt':bO o (ln k) (f k)=t:=(eF hlo).trans ht;have HC:=aA (PZ wr o (ad k) (ln k) (cp k) (f k) HK.out)
   clear hcl hB hok ht;go_wp2_with fail;refine HC.out.mono ?_;rw[hlt',hlo];rintro r w4 ⟨rfl,hb4⟩;have hB4:=aB HB3.out hb4
   have hO4:=dW HO3.out hb4;clear hb4 g0 hlt' hlo HC HK;have e2:oC o ln f (k+1)=oC o ln f k++[t]:=by rw[←HT.out];rfl
   have HE:=aA e2;have HL:=aA hwl
   have hB5:=hB4.alloc hB4.size (.cells #[.int .i64 t.c,.int .i64 t.m.x,.int .i64 t.m.y,.int .i64 t.m.d,.int .i64 t.m.e] 47);have hO5:=hO4.alloc (.cells #[.int .i64 t.c,.int .i64 t.m.x,.int .i64 t.m.y,.int .i64 t.m.d,.int .i64 t.m.e] 47)
   have hnew:((w4.alloc (.cells #[.int .i64 t.c,.int .i64 t.m.x,.int .i64 t.m.y,.int .i64 t.m.d,.int .i64 t.m.e] 47)).alloc (.cells #[.int .i64 t.c,.int .i64 t.m.x,.int .i64 t.m.y,.int .i64 t.m.d,.int .i64 t.m.e] 47)).heap[w4.heap.size+1]? =some (.cells #[.int .i64 t.c,.int .i64 t.m.x,.int .i64 t.m.y,.int .i64 t.m.d,.int .i64 t.m.e] 47):=by have:=heap_alloc_new (w4.alloc (.cells #[.int .i64 t.c,.int .i64 t.m.x,.int .i64 t.m.y,.int .i64 t.m.d,.int .i64 t.m.e] 47)) (.cells #[.int .i64 t.c,.int .i64 t.m.x,.int .i64 t.m.y,.int .i64 t.m.d,.int .i64 t.m.e] 47);rw[World.size_alloc]at this;exact this
   have HN:=aA hnew;clear e2 HT hnew;go_wp2_with (at_builtin;refine wpList_append_lies _ rfl (.tmp 37) (.tmp 39) 24 rfl w.heap.size 47 i0 _ 5 40 Tryz.underlying24 hi0 hz0 hz1 hz2 rfl (by omega) _ (oC o ln f k).length (aF (oC o ln f k)) rfl (hO5.alloc _) ⟨w4.heap.size+1,0,none⟩ 1 1 (aF [t]) rfl (by rw[aU];rfl) (by rw[dG];exact World.news_of_block HN.out) (dN _) (by omega) (by unfold maxLen;omega) (by omega) (by have:=hB4.size;simp;omega) _ rfl ?_;intro g0 cap0 w5 hown1 hgrow hat hlt1;have HB:=aA ((hB5.alloc hB5.size _).grown hgrow (jW hB4.size (by simp;omega)) (fun k hk=>(hO4.lt k hk).1));have HO1:=aA hown1;clear hown1 hgrow hat hlt1 hO4 hO5);go_roundw
   case rel=>exact⟨k+1,by omega,by go_num,HB.out,by
    have h:=HO1.out;rw[HE.out,bF,List.length_append];rw[HL.out]at h⊢
    exact h⟩
   case measure=>simp[intOf];omega
  ·have hnl:¬(k:Int)<(n:Int):=by omega
   have hie:k=n:=by omega
   subst hie;go_wp2;refine cB (v:=.tuple #[u8,.bool true]) (by simp[results,Tryz.results47,go_sem, *]) rfl ⟨_,rfl,HB3.out,HO3.out⟩
def gH (l:T) (b:M):T:=⟨lT l.c,(M.over b l.m).1⟩
def eZ (o:Int) (n:Nat) (f:Nat→T) (m:Nat) (g:Nat→T):Bool:=bH o n f&&bH o m g
def mA (o:Int) (n:Nat) (f:Nat→T) (m:Nat) (g:Nat→T):M:=M.both (bO o n f).m (bO o m g).m
def fC (o:Int) (n:Nat) (f:Nat→T) (m:Nat) (g:Nat→T):T:=if eZ o n f m g=true then gH (bO o n f) (mA o n f m g)else bG
def fD (o:Int) (n:Nat) (f:Nat→T) (m:Nat) (g:Nat→T):T:=if eZ o n f m g=true then gH (bO o m g) (mA o n f m g)else bG
theorem TC {B:Nat} {a w:World} {O:Obj} (h:Below a.heap.size a w) (hB:a.heap.size≤B) (u0 u1 u2 u3 u4:Value):Below a.heap.size a ((((((w.setCell ⟨B,0,none⟩ u0).setCell ⟨B,1,none⟩ u1).setCell ⟨B,2,none⟩ u2).setCell ⟨B,3,none⟩ u3).setCell ⟨B,4,none⟩ u4).alloc O).drew:=
 have k:=bQ h hB u0 u1 u2 u3 u4
 (k.alloc k.size O).drew
abbrev JZ (A B C:Nat) (s t:T) (m:M) (u:World):Prop:=u.cell? ⟨A,0,none⟩=some (.int .i64 s.c)∧u.cell? ⟨A,1,none⟩=some (.int .i64 s.m.x)∧u.cell? ⟨A,2,none⟩=some (.int .i64 s.m.y)∧u.cell? ⟨A,3,none⟩=some (.int .i64 s.m.d)∧u.cell? ⟨A,4,none⟩=some (.int .i64 s.m.e)∧u.cell? ⟨B,0,none⟩=some (.int .i64 t.c)∧u.cell? ⟨B,1,none⟩=some (.int .i64 t.m.x)∧u.cell? ⟨B,2,none⟩=some (.int .i64 t.m.y)∧u.cell? ⟨B,3,none⟩=some (.int .i64 t.m.d)∧u.cell? ⟨B,4,none⟩=some (.int .i64 t.m.e)∧u.cell? ⟨C,0,none⟩=some (.int .i64 m.x)∧u.cell? ⟨C,1,none⟩=some (.int .i64 m.y)∧u.cell? ⟨C,2,none⟩=some (.int .i64 m.d)∧u.cell? ⟨C,3,none⟩=some (.int .i64 m.e)
theorem JZ.below {A B C:Nat} {s t:T} {m:M} {u u':World} (h:JZ A B C s t m u) (hb:Below u.heap.size u u'):JZ A B C s t m u':=
 have l1:=cU u ⟨A,0,none⟩ h.1;have l2:=cU u ⟨B,0,none⟩ h.2.2.2.2.2.1
 have l3:=cU u ⟨C,0,none⟩ h.2.2.2.2.2.2.2.2.2.2.1
 ⟨(hb.cell (p:=⟨A,0,none⟩) l1).trans h.1,(hb.cell (p:=⟨A,1,none⟩) l1).trans h.2.1,(hb.cell (p:=⟨A,2,none⟩) l1).trans h.2.2.1,(hb.cell (p:=⟨A,3,none⟩) l1).trans h.2.2.2.1,(hb.cell (p:=⟨A,4,none⟩) l1).trans h.2.2.2.2.1,(hb.cell (p:=⟨B,0,none⟩) l2).trans h.2.2.2.2.2.1,(hb.cell (p:=⟨B,1,none⟩) l2).trans h.2.2.2.2.2.2.1,(hb.cell (p:=⟨B,2,none⟩) l2).trans h.2.2.2.2.2.2.2.1,(hb.cell (p:=⟨B,3,none⟩) l2).trans h.2.2.2.2.2.2.2.2.1,(hb.cell (p:=⟨B,4,none⟩) l2).trans h.2.2.2.2.2.2.2.2.2.1,(hb.cell (p:=⟨C,0,none⟩) l3).trans h.2.2.2.2.2.2.2.2.2.2.1,(hb.cell (p:=⟨C,1,none⟩) l3).trans h.2.2.2.2.2.2.2.2.2.2.2.1,(hb.cell (p:=⟨C,2,none⟩) l3).trans h.2.2.2.2.2.2.2.2.2.2.2.2.1,(hb.cell (p:=⟨C,3,none⟩) l3).trans h.2.2.2.2.2.2.2.2.2.2.2.2.2⟩
theorem lK {w:World} {B b o:Nat} {v0 v1 v2 v3 v4 v5 v6 v7 v8 v9:Value} (h:b≠B):((((((((((w.setCell ⟨B,0,none⟩ v0).setCell ⟨B,1,none⟩ v1).setCell ⟨B,2,none⟩ v2).setCell ⟨B,3,none⟩ v3).setCell ⟨B,4,none⟩ v4).setCell ⟨B,5,none⟩ v5).setCell ⟨B,6,none⟩ v6).setCell ⟨B,7,none⟩ v7).setCell ⟨B,8,none⟩ v8).setCell ⟨B,9,none⟩ v9).cell? ⟨b,o,none⟩=w.cell? ⟨b,o,none⟩:=by refine lH ?_;rw[Below.heap_setCell _ _ _ _ h,Below.heap_setCell _ _ _ _ h,Below.heap_setCell _ _ _ _ h,Below.heap_setCell _ _ _ _ h,Below.heap_setCell _ _ _ _ h,Below.heap_setCell _ _ _ _ h,Below.heap_setCell _ _ _ _ h,Below.heap_setCell _ _ _ _ h,Below.heap_setCell _ _ _ _ h,Below.heap_setCell _ _ _ _ h]
def Am (D:Nat) (u:World):Prop:=(∀i,i<10→u.cell? ⟨D,i,none⟩=some (.int .i64 0))∧∀i,u.frozen? ⟨D,i,none⟩=false
theorem Am.below {D:Nat} {u u':World} (h:Am D u) (hb:Below u.heap.size u u'):Am D u':=
 have l:=cU u ⟨D,0,none⟩ (h.1 0 (by omega))
 ⟨fun i hi=>(hb.cell (p:=⟨D,i,none⟩) l).trans (h.1 i hi),fun i=>(hb.frozen (p:=⟨D,i,none⟩) l).trans (h.2 i)⟩
theorem KA {A B C:Nat} {s t:T} {m:M} {u:World} {D:Nat} {v0 v1 v2 v3 v4 v5 v6 v7 v8 v9:Value} (h:JZ A B C s t m u) (h1:A≠D) (h2:B≠D) (h3:C≠D):JZ A B C s t m ((((((((((u.setCell ⟨D,0,none⟩ v0).setCell ⟨D,1,none⟩ v1).setCell ⟨D,2,none⟩ v2).setCell ⟨D,3,none⟩ v3).setCell ⟨D,4,none⟩ v4).setCell ⟨D,5,none⟩ v5).setCell ⟨D,6,none⟩ v6).setCell ⟨D,7,none⟩ v7).setCell ⟨D,8,none⟩ v8).setCell ⟨D,9,none⟩ v9):=
 ⟨(lK h1).trans h.1,(lK h1).trans h.2.1,(lK h1).trans h.2.2.1,(lK h1).trans h.2.2.2.1,(lK h1).trans h.2.2.2.2.1,(lK h2).trans h.2.2.2.2.2.1,(lK h2).trans h.2.2.2.2.2.2.1,(lK h2).trans h.2.2.2.2.2.2.2.1,(lK h2).trans h.2.2.2.2.2.2.2.2.1,(lK h2).trans h.2.2.2.2.2.2.2.2.2.1,(lK h3).trans h.2.2.2.2.2.2.2.2.2.2.1,(lK h3).trans h.2.2.2.2.2.2.2.2.2.2.2.1,(lK h3).trans h.2.2.2.2.2.2.2.2.2.2.2.2.1,(lK h3).trans h.2.2.2.2.2.2.2.2.2.2.2.2.2⟩
theorem TB {n B:Nat} {a w:World} (h:Below n a w) (hB:n≤B) (v0 v1 v2 v3 v4 v5 v6 v7 v8 v9:Value):Below n a ((((((((((w.setCell ⟨B,0,none⟩ v0).setCell ⟨B,1,none⟩ v1).setCell ⟨B,2,none⟩ v2).setCell ⟨B,3,none⟩ v3).setCell ⟨B,4,none⟩ v4).setCell ⟨B,5,none⟩ v5).setCell ⟨B,6,none⟩ v6).setCell ⟨B,7,none⟩ v7).setCell ⟨B,8,none⟩ v8).setCell ⟨B,9,none⟩ v9):=
 (((((((((h.setCell hB v0).setCell hB v1).setCell hB v2).setCell hB v3).setCell hB v4).setCell hB v5).setCell hB v6).setCell hB v7).setCell hB v8).setCell hB v9
theorem xE (w:World) (l:T) (b:M):Calls Tryz.prog 137 #[.agg #[.int .i64 l.c,.int .i64 l.m.x,.int .i64 l.m.y,.int .i64 l.m.d,.int .i64 l.m.e],.agg #[.int .i64 b.x,.int .i64 b.y,.int .i64 b.d,.int .i64 b.e]] w fun r w'=>r= .returned (.agg #[.int .i64 (gH l b).c,.int .i64 (gH l b).m.x,.int .i64 (gH l b).m.y,.int .i64 (gH l b).m.d,.int .i64 (gH l b).m.e])∧Below w.heap.size w w':=by
 obtain⟨m,bv,hm⟩:∃m bv,M.over ⟨b.x,b.y,b.d,b.e⟩ ⟨l.m.x,l.m.y,l.m.d,l.m.e⟩=(m,bv):=⟨_,_,rfl⟩
 have e1:gH l b=⟨lT l.c,m⟩:=by unfold gH;rw[show M.over b l.m=(m,bv)from hm]
 rw[e1];clear e1;go_enter Tryz.func137,Tryz.ntmps137;go_wp2_with fail;refine(uN hm _).mono ?_;rintro r w1 ⟨rfl,hb1⟩;obtain⟨hc1,hf1⟩:=aO hb1;have hz1:w.heap.size+1+1<w1.heap.size:=by have:=hb1.size;simp at this;omega
 have HB1:=aA (aB (aR w _ _ _) hb1);have q0:w1.cell? ⟨w.heap.size,0,none⟩=some (.int .i64 l.c):=by go_simp
 have t0:w1.cell? ⟨w.heap.size+1+1,0,none⟩=some (.int .i64 0):=by go_simp
 have t1:w1.cell? ⟨w.heap.size+1+1,1,none⟩=some (.int .i64 0):=by go_simp
 have t2:w1.cell? ⟨w.heap.size+1+1,2,none⟩=some (.int .i64 0):=by go_simp
 have t3:w1.cell? ⟨w.heap.size+1+1,3,none⟩=some (.int .i64 0):=by go_simp
 have t4:w1.cell? ⟨w.heap.size+1+1,4,none⟩=some (.int .i64 0):=by go_simp
 have z0:∀i,w1.frozen? ⟨w.heap.size+1+1,i,none⟩=false:=fun i=>by go_simp
 have hz2:w.heap.size<w1.heap.size:=by omega
 have HB2:=aA (HB1.out.alloc HB1.out.size (.cells #[.int .i64 m.x,.int .i64 m.y,.int .i64 m.d,.int .i64 m.e] 45));have hS:L5 w.heap.size 0 w1.heap.size (.int .i64 l.c) m (w1.alloc (.cells #[.int .i64 m.x,.int .i64 m.y,.int .i64 m.d,.int .i64 m.e] 45)).drew:=by have h4:=M4.box w1 45 m.x m.y m.d m.e;exact⟨(CB _ _ _ hz2).trans q0,h4.1,h4.2.1,h4.2.2.1,h4.2.2.2⟩
 clear hc1 hf1 hb1 hm;go_wp2_with fail;obtain⟨p0,p1,p2,p3,p4⟩:=hS
 go_region_with (first|(go_at_call 106;refine(Ba _ _).mono ?_;rintro r w7 ⟨rfl,hw7⟩;obtain rfl:=hw7.symm;clear hw7))
 all_goals
  go_wp2;refine cB (v:=.agg #[.int .i64 (lT l.c),.int .i64 m.x,.int .i64 m.y,.int .i64 m.d,.int .i64 m.e]) (by simp[results,Tryz.results137,go_sem, *]) rfl ⟨rfl,?_⟩;exact TC HB1.out (by omega) _ _ _ _ _
theorem YB (w:World) (la lb:T):Calls Tryz.prog 94 #[.agg #[.int .i64 la.c,.int .i64 la.m.x,.int .i64 la.m.y,.int .i64 la.m.d,.int .i64 la.m.e],.agg #[.int .i64 lb.c,.int .i64 lb.m.x,.int .i64 lb.m.y,.int .i64 lb.m.d,.int .i64 lb.m.e]] w fun r w'=>r= .returned (.agg #[.int .i64 (gH la (M.both la.m lb.m)).c,.int .i64 (gH la (M.both la.m lb.m)).m.x,.int .i64 (gH la (M.both la.m lb.m)).m.y,.int .i64 (gH la (M.both la.m lb.m)).m.d,.int .i64 (gH la (M.both la.m lb.m)).m.e,.int .i64 (gH lb (M.both la.m lb.m)).c,.int .i64 (gH lb (M.both la.m lb.m)).m.x,.int .i64 (gH lb (M.both la.m lb.m)).m.y,.int .i64 (gH lb (M.both la.m lb.m)).m.d,.int .i64 (gH lb (M.both la.m lb.m)).m.e])∧Below w.heap.size w w':=by
 obtain⟨m,hm⟩:∃m,M.both ⟨la.m.x,la.m.y,la.m.d,la.m.e⟩ ⟨lb.m.x,lb.m.y,lb.m.d,lb.m.e⟩=m:=⟨_,rfl⟩
 rw[show M.both la.m lb.m=m from hm];obtain⟨U,hU⟩:∃U,gH la m=U:=⟨_,rfl⟩
 obtain⟨V,hV⟩:∃V,gH lb m=V:=⟨_,rfl⟩
 rw[hU,hV];have c1:=fun W=>xE W la m
 have c2:=fun W=>xE W lb m;rw[hU]at c1;rw[hV]at c2;clear hU hV;go_enter Tryz.func94,Tryz.ntmps94;go_wp2_with fail;refine(DF hm _).mono ?_;rintro r w1 ⟨rfl,hb1⟩;obtain⟨hc1,hf1⟩:=aO hb1;have hz1:w.heap.size+1+1<w1.heap.size:=by have:=hb1.size;simp at this;omega
 have HB1:=aA (aB (aR w _ _ _) hb1);have hS:JZ w.heap.size (w.heap.size+1) w1.heap.size la lb m (w1.alloc (.cells #[.int .i64 m.x,.int .i64 m.y,.int .i64 m.d,.int .i64 m.e] 45)).drew:=by
  have h4:=M4.box w1 45 m.x m.y m.d m.e;have k1:w.heap.size<w1.heap.size:=by omega
  have k2:w.heap.size+1<w1.heap.size:=by omega
  refine⟨(CB _ _ _ k1).trans (by go_simp),(CB _ _ _ k1).trans (by go_simp),(CB _ _ _ k1).trans (by go_simp),(CB _ _ _ k1).trans (by go_simp),(CB _ _ _ k1).trans (by go_simp),(CB _ _ _ k2).trans (by go_simp),(CB _ _ _ k2).trans (by go_simp),(CB _ _ _ k2).trans (by go_simp),(CB _ _ _ k2).trans (by go_simp),(CB _ _ _ k2).trans (by go_simp),h4.1,h4.2.1,h4.2.2.1,h4.2.2.2⟩
 have hZ:Am (w.heap.size+1+1) (w1.alloc (.cells #[.int .i64 m.x,.int .i64 m.y,.int .i64 m.d,.int .i64 m.e] 45)).drew:=by
  refine⟨fun i hi=>(CB _ _ _ hz1).trans ?_,fun i=>((aC w1 _).frozen (p:=⟨w.heap.size+1+1,i,none⟩) hz1).trans (by go_simp)⟩;have h10:i=0∨i=1∨i=2∨i=3∨i=4∨i=5∨i=6∨i=7∨i=8∨i=9:=by omega
  rcases h10 with rfl|rfl|rfl|rfl|rfl|rfl|rfl|rfl|rfl|rfl<;>go_simp
 have HZ:=aA hZ;clear hm hb1 hc1 hf1 hZ;have hz2:w.heap.size+1<w1.heap.size:=by omega
 have hz3:w.heap.size<w1.heap.size:=by omega
 have HB2:=aA (HB1.out.alloc HB1.out.size (.cells #[.int .i64 m.x,.int .i64 m.y,.int .i64 m.d,.int .i64 m.e] 45));go_wp2_with fail
 go_region_held3 (fun u=>u.cell? ⟨w.heap.size,0,none⟩=some (.int .i64 la.c)∧u.cell? ⟨w.heap.size,1,none⟩=some (.int .i64 la.m.x)∧u.cell? ⟨w.heap.size,2,none⟩=some (.int .i64 la.m.y)∧u.cell? ⟨w.heap.size,3,none⟩=some (.int .i64 la.m.d)∧u.cell? ⟨w.heap.size,4,none⟩=some (.int .i64 la.m.e)∧u.cell? ⟨w.heap.size+1,0,none⟩=some (.int .i64 lb.c)∧u.cell? ⟨w.heap.size+1,1,none⟩=some (.int .i64 lb.m.x)∧u.cell? ⟨w.heap.size+1,2,none⟩=some (.int .i64 lb.m.y)∧u.cell? ⟨w.heap.size+1,3,none⟩=some (.int .i64 lb.m.d)∧u.cell? ⟨w.heap.size+1,4,none⟩=some (.int .i64 lb.m.e)∧u.cell? ⟨w1.heap.size,0,none⟩=some (.int .i64 m.x)∧u.cell? ⟨w1.heap.size,1,none⟩=some (.int .i64 m.y)∧u.cell? ⟨w1.heap.size,2,none⟩=some (.int .i64 m.d)∧u.cell? ⟨w1.heap.size,3,none⟩=some (.int .i64 m.e)) (first|with_reducible exact hS|with_reducible exact JZ.below hS b1|with_reducible exact JZ.below (JZ.below hS b1) b2|with_reducible exact KA (JZ.below (JZ.below hS b1) b2) (by omega) (by omega) (by omega)) (first|(go_at_call_of 137 (Value.agg #[Value.int .i64 la.c,Value.int .i64 la.m.x,Value.int .i64 la.m.y,Value.int .i64 la.m.d,Value.int .i64 la.m.e]);refine(c1 _).mono ?_;rintro r w2 ⟨rfl,b1⟩)|(go_at_call_of 137 (Value.agg #[Value.int .i64 lb.c,Value.int .i64 lb.m.x,Value.int .i64 lb.m.y,Value.int .i64 lb.m.d,Value.int .i64 lb.m.e]);refine(c2 _).mono ?_;rintro r w3 ⟨rfl,b2⟩;have hZ3:=(HZ.out.below b1).below b2;have d0:=hZ3.1 0 (by omega);have d1:=hZ3.1 1 (by omega);have d2:=hZ3.1 2 (by omega);have d3:=hZ3.1 3 (by omega);have d4:=hZ3.1 4 (by omega);have d5:=hZ3.1 5 (by omega);have d6:=hZ3.1 6 (by omega);have d7:=hZ3.1 7 (by omega);have d8:=hZ3.1 8 (by omega);have d9:=hZ3.1 9 (by omega);have dz:=hZ3.2;clear hZ3))
 have HB4:=aA (aB (aB HB2.out.drew b1) b2);go_wp2;refine cB (v:=.agg #[.int .i64 U.c,.int .i64 U.m.x,.int .i64 U.m.y,.int .i64 U.m.d,.int .i64 U.m.e,.int .i64 V.c,.int .i64 V.m.x,.int .i64 V.m.y,.int .i64 V.m.d,.int .i64 V.m.e]) (by simp[results,Tryz.results94,go_sem, *]) rfl ⟨rfl,?_⟩;exact TB HB4.out (by omega) _ _ _ _ _ _ _ _ _ _
end Go.Proofs.YtncffcaabnjioaaGreat
