/-
  The greatest terms of a list of operators: the program.
  A division on its way, as lists: what a step does, and what stays true.
  The greatest term of a sum while it is made.
-/
import Derived.Test.YtbkighpmkadmmaaMap
import Derived.Maps.RangeWalk
set_option maxHeartbeats 8000000
set_option maxRecDepth 100000
namespace Go.Proofs.Ytbkighpmkadmmaa
open Go.RowKit Go.Deep Go.Joins
set_option linter.unusedVariables false
def mS (o:Int) (ln:Nat→Nat) (f:Nat→Nat→T):Nat→List T
 |0=>[]
 |i+1=>mS o ln f i++[dM o ln f i]
theorem fK (o:Int) (ln:Nat→Nat) (f:Nat→Nat→T):∀i,(mS o ln f i).length=i
 |0=>rfl
 |i+1=>by unfold mS;rw[List.length_append,fK o ln f i];rfl
theorem yY (o:Int) (ln:Nat→Nat) (f:Nat→Nat→T):∀n i,i<n→lf (mS o ln f n) i=dM o ln f i
 |0,i,h=>by omega
 |n+1,i,h=>by
  have hl:=fK o ln f n;unfold mS lf;by_cases e:i=n
  ·subst e;rw[List.getD_eq_getElem?_getD,List.getElem?_append_right (by omega),hl];simp
  ·have:=yY o ln f n i (by omega);unfold lf at this;rw[List.getD_eq_getElem?_getD]at this⊢;rw[List.getElem?_append_left (by omega)];exact this
theorem qQ (w:World) (o:Int) (a:Option Addr) (n cap:Nat) (ho:o<1∨3<o):Calls Try.prog 44 #[.int .i64 o,.slice a n cap] w fun r w'=>r= .returned (.tuple #[.slice none 0 0,.bool false])∧Below w.heap.size w w':=by
 go_enter Try.func44,Try.ntmps44;go_wp2_with fail;refine(mU _ _ ho).mono ?_;rintro r w1 ⟨rfl,hb1⟩;have HB:=aA hb1
 clear hb1;go_wp2;refine cN (v:=.tuple #[.slice none 0 0,.bool false]) (by simp[results,Try.results44,go_sem, *]) rfl ⟨rfl,HB.out⟩
theorem tE (w:World) (o:Int) (a:Option Addr) (n cap:Nat) (ad:Nat→Option Addr) (ln cp:Nat→Nat) (f:Nat→Nat→T) (h:gO w a n cap ad ln cp f) (o1:1≤o) (o2:o≤3) (hls:aY n ln f=false):Calls Try.prog 44 #[.int .i64 o,.slice a n cap] w fun r w'=>r= .returned (.tuple #[.slice none 0 0,.bool false])∧Below w.heap.size w w':=by
 have HH:=aA h;clear h;go_enter Try.func44,Try.ntmps44;go_wp2_with fail;refine(iF _ _ o1 o2).mono ?_;rintro r w1 ⟨fv,rfl,hb1⟩;have HB:=aA hb1
 have HR:=aA (HH.out.below hb1);clear hb1;go_wp2_with fail;refine(DI _ _ _ _ _ _ _ _ HR.out).mono ?_;rw[hls];rintro r w2 ⟨rfl,hb2⟩;have HB2:=aA (aB HB.out hb2)
 clear hb2;go_wp2;refine cN (v:=.tuple #[.slice none 0 0,.bool false]) (by simp[results,Try.results44,go_sem, *]) rfl ⟨rfl,HB2.out⟩
theorem rK (w:World) (o:Int) (a:Option Addr) (n cap:Nat) (ad:Nat→Option Addr) (ln cp:Nat→Nat) (f:Nat→Nat→T) (h:gO w a n cap ad ln cp f) (o1:1≤o) (o2:o≤3) (hls:aY n ln f=true):Calls Try.prog 44 #[.int .i64 o,.slice a n cap] w fun r w'=>∃v,r= .returned (.tuple #[v,.bool true])∧Below w.heap.size w w'∧w'.ownsRow w.heap.size 33 5 v (mS o ln f n).length (aG (mS o ln f n)):=by
 obtain⟨i0,hi0,hz0,hz1,hz2⟩:=info_parts vB;have HH:=aA h
 have hall:=aZ hls;have HO:=aA hall.2
 have hn:(n:Int)≤12:=by have:=hall.1;omega
 clear h hall;go_enter Try.func44,Try.ntmps44;go_wp2_with fail;refine(iF _ _ o1 o2).mono ?_;rintro r w1 ⟨fv,rfl,hb1⟩;have HB:=aA hb1
 have HR:=aA (HH.out.below hb1);clear hb1;go_wp2_with fail;refine(DI _ _ _ _ _ _ _ _ HR.out).mono ?_;rw[hls];rintro r w2 ⟨rfl,hb2⟩;have HB2:=aA (aB HB.out hb2)
 clear hb2 HB HR hls;go_wp2;go_loopw [8,27] (fun v i wr=>∃k:Nat,k≤n∧i= .int .i64 (k:Int)∧Below w.heap.size w wr∧wr.ownsRow w.heap.size 33 5 v (mS o ln f k).length (aG (mS o ln f k))) (fun _ i _=>n-(intOf i).toNat);case atStart=>exact⟨0,gT _,rfl,HB2.out,AZ w2 _⟩
 case round=>
  obtain⟨k,hk,rfl,hB,hown⟩:=hrel;have HB3:=aA hB
  have HO3:=aA hown;clear hown;by_cases hlt:k<n
  ·rcases HH.out.2.2.1 with h0|⟨b,off,rfl,hblt,hcl⟩
   ·omega
   have hkl:(k:Int)<(n:Int):=by omega
   have g0:wr.cell? ⟨b,off+k,none⟩=some (.slice (ad k) (ln k) (cp k)):=(hB.cell (p:=⟨b,off+k,none⟩) hblt).trans (hcl k hlt);have HK:=aA ((HH.out.2.2.2 k hlt).below hB)
   have hwl:=fK o ln f k;obtain⟨t,ht⟩:∃t,dM o ln f k=t:=⟨_,rfl⟩
   have HT:=aA ht;have hok:=HO.out k hlt
   have hlo:aX o (ln k) (f k)=true:=by unfold aX;rw[hok.2,decide_eq_true (show 1≤o∧o≤3 from⟨o1,o2⟩),decide_eq_true (show 0<ln k by omega)];rfl
   have hlt':bB o (ln k) (f k)=t:=(cS hlo).trans ht;have HC:=aA (EB wr o (ad k) (ln k) (cp k) (f k) HK.out)
   clear hcl hB hok ht;go_wp2_with fail;refine HC.out.mono ?_;rw[hlt',hlo];rintro r w4 ⟨rfl,hb4⟩;have hB4:=aB HB3.out hb4
   have hO4:=cI HO3.out hb4;clear hb4 g0 hlt' hlo HC HK;have e2:mS o ln f (k+1)=mS o ln f k++[t]:=by rw[←HT.out];rfl
   have HE:=aA e2;have HL:=aA hwl
   have hB5:=hB4.alloc hB4.size (.cells #[.int .i64 t.c,.int .i64 t.m.x,.int .i64 t.m.y,.int .i64 t.m.d,.int .i64 t.m.e] 33);have hO5:=hO4.alloc (.cells #[.int .i64 t.c,.int .i64 t.m.x,.int .i64 t.m.y,.int .i64 t.m.d,.int .i64 t.m.e] 33)
   have hnew:((w4.alloc (.cells #[.int .i64 t.c,.int .i64 t.m.x,.int .i64 t.m.y,.int .i64 t.m.d,.int .i64 t.m.e] 33)).alloc (.cells #[.int .i64 t.c,.int .i64 t.m.x,.int .i64 t.m.y,.int .i64 t.m.d,.int .i64 t.m.e] 33)).heap[w4.heap.size+1]? =some (.cells #[.int .i64 t.c,.int .i64 t.m.x,.int .i64 t.m.y,.int .i64 t.m.d,.int .i64 t.m.e] 33):=by have:=heap_alloc_new (w4.alloc (.cells #[.int .i64 t.c,.int .i64 t.m.x,.int .i64 t.m.y,.int .i64 t.m.d,.int .i64 t.m.e] 33)) (.cells #[.int .i64 t.c,.int .i64 t.m.x,.int .i64 t.m.y,.int .i64 t.m.d,.int .i64 t.m.e] 33);rw[World.size_alloc]at this;exact this
   have HN:=aA hnew;clear e2 HT hnew;go_wp2_with (at_builtin;refine wpList_append_lies _ rfl (.tmp 37) (.tmp 39) 29 rfl w.heap.size 33 i0 _ 5 40 Try.underlying29 hi0 hz0 hz1 hz2 rfl (by omega) _ (mS o ln f k).length (aG (mS o ln f k)) rfl (hO5.alloc _) ⟨w4.heap.size+1,0,none⟩ 1 1 (aG [t]) rfl (by rw[aU];rfl) (by rw[bX];exact World.news_of_block HN.out) (cC _) (by omega) (by unfold maxLen;omega) (by omega) (by have:=hB4.size;simp;omega) _ rfl ?_;intro g0 cap0 w5 hown1 hgrow hat hlt1;have HB:=aA ((hB5.alloc hB5.size _).grown hgrow (kM hB4.size (by simp;omega)) (fun k hk=>(hO4.lt k hk).1));have HO1:=aA hown1;clear hown1 hgrow hat hlt1 hO4 hO5);go_roundw
   case rel=>exact⟨k+1,by omega,by go_num,HB.out,by
    have h:=HO1.out;rw[HE.out,bC,List.length_append];rw[HL.out]at h⊢
    exact h⟩
   case measure=>simp[intOf];omega
  ·have hnl:¬(k:Int)<(n:Int):=by omega
   have hie:k=n:=by omega
   subst hie;go_wp2;refine cN (v:=.tuple #[u8,.bool true]) (by simp[results,Try.results44,go_sem, *]) rfl ⟨_,rfl,HB3.out,HO3.out⟩
structure Dv where
 p:List T
 q:Nat→List T
 r:List T
def dY (o:Int) (L:List T):T:=lf L (aP o (lf L) L.length)
def sH (o:Int) (n:Nat) (ln:Nat→Nat) (f:Nat→Nat→T) (m:M):Int:=eO (fun t=>M.dvd t.m m) (dM o ln f) n
def jV (q:Nat→List T) (k:Nat) (L:List T) (i:Nat):List T:=if i=k then L else q i
def FY (o:Int) (ln:Nat→Nat) (f:Nat→Nat→T) (S:Dv) (k:Nat):T:=dH (dY o S.p) (dM o ln f k)
def lM (o:Int) (ln:Nat→Nat) (f:Nat→Nat→T) (S:Dv) (k:Nat):Option Dv:=
 match bR (lf [FY o ln f S k]) (f k) (ln k) 1 with
 |none=>none
 |some Y=>if(cA S.p Y).length≤400 then some ⟨cA S.p Y,jV S.q k (bT (S.q k) [FY o ln f S k]),S.r⟩else none
def jG (o:Int) (S:Dv):Dv:=⟨cA S.p [dY o S.p],S.q,bT S.r [dY o S.p]⟩
def cP (o:Int) (n:Nat) (ln:Nat→Nat) (f:Nat→Nat→T) (S:Dv):Option Dv:=
 if 0≤sH o n ln f (dY o S.p).m then lM o ln f S (sH o n ln f (dY o S.p).m).toNat else some (jG o S)
def dK (o:Int) (n:Nat) (ln:Nat→Nat) (f:Nat→Nat→T):Nat→Dv→Option Dv
 |0,S=>if S.p.length=0 then some S else none
 |u+1,S=>if S.p.length=0 then some S else match cP o n ln f S with
  |none=>none
  |some S'=>dK o n ln f u S'
def mK (p:List T):Dv:=⟨p,fun _=>[],[]⟩
def dF (o:Int) (p:List T) (n:Nat) (ln:Nat→Nat) (f:Nat→Nat→T):Option Dv:=
 if(1≤o∧o≤3)∧bZ p=true∧aY n ln f=true then dK o n ln f 300 (mK p)else none
structure iQ (u:Nat) (S:Dv):Prop where
 p:bZ S.p=true
 q:∀k,aJ (S.q k)∧(S.q k).length≤u
 r:aJ S.r∧S.r.length≤u
theorem iQ.start {p:List T} (h:bZ p=true):iQ 0 (mK p):=⟨h,fun _=>⟨dE,Nat.le_refl _⟩,dE,Nat.le_refl _⟩
theorem lL {o:Int} {n:Nat} {ln:Nat→Nat} {f:Nat→Nat→T} {u:Nat} {S:Dv} (h:S.p.length=0):dK o n ln f u S=some S:=by cases u<;>exact if_pos h
theorem AM {o:Int} {n:Nat} {ln:Nat→Nat} {f:Nat→Nat→T} {S:Dv} (h:S.p.length≠0):dK o n ln f 0 S=none:=if_neg h
theorem pO {o:Int} {n:Nat} {ln:Nat→Nat} {f:Nat→Nat→T} {u:Nat} {S:Dv} (h:S.p.length≠0) (hs:cP o n ln f S=none):dK o n ln f (u+1) S=none:=by show(if S.p.length=0 then some S else match cP o n ln f S with|none=>none|some S'=>dK o n ln f u S')=none;rw[if_neg h,hs]
theorem jH {o:Int} {n:Nat} {ln:Nat→Nat} {f:Nat→Nat→T} {u:Nat} {S S':Dv} (h:S.p.length≠0) (hs:cP o n ln f S=some S'):dK o n ln f (u+1) S=dK o n ln f u S':=by show(if S.p.length=0 then some S else match cP o n ln f S with|none=>none|some S'=>dK o n ln f u S')=_;rw[if_neg h,hs]
theorem jJ {o:Int} {L:List T} (h:L.length≠0):dY o L∈L:=nR (nO (by omega))
theorem kH {o:Int} {L:List T} (hL:aJ L) (h:L.length≠0):(dY o L).m.ok=true∧1≤(dY o L).c∧(dY o L).c≤100:=hL.2 _ (jJ h)
theorem xG {o:Int} {L:List T} (ho:1≤o∧o≤3) (hL:bZ L=true) (h:L.length≠0):dY o L=lR o L:=by have:aX o L.length (lf L)=true:=gL.2 ⟨ho,hL,fun e=>h (by rw[e];rfl)⟩;unfold lR;rw[cS this];rfl
theorem yX {o:Int} {L:List T} (ho:1≤o∧o≤3) (hL:bZ L=true) (h:L.length≠0):∀t∈L,gI o t.m≤gI o (dY o L).m:=by have:sR o L=true:=gL.2 ⟨ho,hL,fun e=>h (by rw[e];rfl)⟩;rw[xG ho hL h];exact(nN this).2
theorem qX {o:Int} {n:Nat} {ln:Nat→Nat} {f:Nat→Nat→T} (hl:aY n ln f=true) {k:Nat} (hk:k<n):(dM o ln f k).m.ok=true∧1≤(dM o ln f k).c∧(dM o ln f k).c≤100:=by obtain⟨h0,h1⟩:=(aZ hl).2 k hk;exact(fI h1).2 _ (nO (by omega))
theorem xN {a b:Int} (h1:1≤a) (h2:a≤100) (h3:1≤b) (h4:b≤100):1≤a*b%101∧a*b%101≤100:=by
 have h0:a*b%101≠0:=fun e=>by
  obtain⟨x,hx⟩:∃x:Nat,a=x:=⟨a.toNat,by omega⟩
  obtain⟨y,hy⟩:∃y:Nat,b=y:=⟨b.toNat,by omega⟩
  subst hx hy;have:=rJ ⟨x,by omega⟩ ⟨y,by omega⟩ (by simp only;exact_mod_cast e)
  simp at this;omega
 omega
theorem qB {t l:T} (ht:t.m.ok=true∧1≤t.c∧t.c≤100) (hl:l.m.ok=true∧1≤l.c∧l.c≤100) (hd:l.m.dvd t.m=true):(dH t l).m.ok=true∧1≤(dH t l).c∧(dH t l).c≤100:=by
 have h1:=oC (b:=t.m) hl hd;have h2:=xN ht.2.1 ht.2.2 (uR hl.2.1 hl.2.2) (mN l.c).2
 exact⟨h1.1,h2.1,h2.2⟩
theorem iT {o:Int} {n:Nat} {ln:Nat→Nat} {f:Nat→Nat→T} {m:M} (h:0≤sH o n ln f m):(sH o n ln f m).toNat<n∧M.dvd (dM o ln f (sH o n ln f m).toNat).m m=true:=by
 unfold sH at h⊢;obtain⟨i,hi,hp⟩:=sL.1 h;obtain⟨j,hj,h1,h2⟩:∃j,j<n∧(∀i,i<j→(fun t:T=>M.dvd t.m m) (dM o ln f i)=false)∧(fun t:T=>M.dvd t.m m) (dM o ln f j)=true:=by
  clear h
  revert i
  induction n with
  |zero=>intro i hi;omega
  |succ n ih=>
   intro i hi hp;by_cases hx:∃i,i<n∧(fun t:T=>M.dvd t.m m) (dM o ln f i)=true
   ·obtain⟨i',h1,h2⟩:=hx;obtain⟨j,hj,h3,h4⟩:=ih i' h1 h2;exact⟨j,by omega,h3,h4⟩
   ·have hin:i=n:=by
     rcases Nat.lt_or_ge i n with h|h
     ·exact absurd ⟨i,h,hp⟩ hx
     ·omega
    subst hin;refine⟨i,hi,fun k hk=>?_,hp⟩;cases hb:(fun t:T=>M.dvd t.m m) (dM o ln f k)with
    |false=>rfl
    |true=>exact absurd ⟨k,hk,hb⟩ hx
 rw[mR h1 h2 n hj];exact⟨by simpa using hj,by simpa using h2⟩
theorem gW {t:T} (h:t.m.ok=true∧1≤t.c∧t.c≤100):aJ [t]:=(aH (gZ h)).2
theorem uM {o:Int} {n:Nat} {ln:Nat→Nat} {f:Nat→Nat→T} (hl:aY n ln f=true) {S:Dv} (hp:bZ S.p=true) (h:S.p.length≠0) (hk:0≤sH o n ln f (dY o S.p).m):(FY o ln f S (sH o n ln f (dY o S.p).m).toNat).m.ok=true∧1≤(FY o ln f S (sH o n ln f (dY o S.p).m).toNat).c∧(FY o ln f S (sH o n ln f (dY o S.p).m).toNat).c≤100:=
 qB (kH (aH hp).2 h) (qX hl (iT hk).1) (iT hk).2
theorem xM {t:T} (ht:t.m.ok=true∧1≤t.c∧t.c≤100) {g:Nat→T} {m:Nat} (hg:aL m g=true) {Y:List T} (h:bR (lf [t]) g m 1=some Y):bZ Y=true:=
 dX (eD _ Y h) (bM (bG (show aL 1 (lf [t])=true from gZ ht)).2 (bG hg).2 _ Y (Nat.le_refl _) h)
theorem iQ.take {o:Int} {n:Nat} {ln:Nat→Nat} {f:Nat→Nat→T} (hl:aY n ln f=true) {u:Nat} {S S':Dv} (h:iQ u S) (h0:S.p.length≠0) (hk:0≤sH o n ln f (dY o S.p).m) (hs:lM o ln f S (sH o n ln f (dY o S.p).m).toNat=some S'):iQ (u+1) S':=by
 have hg:=uM hl h.p h0 hk;have hkn:=(iT hk).1
 generalize(sH o n ln f (dY o S.p).m).toNat=k at hs hg hkn;unfold lM at hs;split at hs
 ·cases hs
 ·rename_i Y hY;split at hs
  ·rename_i hle;cases hs;have fY:=xM hg ((aZ hl).2 k hkn).2 hY
   refine⟨dX hle (dB (aH h.p).2 (aH fY).2).1,fun i=>?_,h.r.1,Nat.le_succ_of_le h.r.2⟩;show aJ (jV S.q k _ i)∧(jV S.q k _ i).length≤u+1
   unfold jV;split
   ·refine⟨(cZ (h.q k).1 (gW hg)).1,?_⟩;have h1:=kA (S.q k) [FY o ln f S k]
    have h2:=(h.q k).2;simp only[List.length_singleton]at h1;omega
   ·exact⟨(h.q i).1,Nat.le_succ_of_le (h.q i).2⟩
  ·cases hs
theorem iQ.leave {o:Int} {u:Nat} {S:Dv} (h:iQ u S) (h0:S.p.length≠0) (hle:(cA S.p [dY o S.p]).length≤400):iQ (u+1) (jG o S):=by
 have hg:=kH (o:=o) (aH h.p).2 h0;refine⟨dX hle (dB (aH h.p).2 (gW hg)).1,fun i=>⟨(h.q i).1,Nat.le_succ_of_le (h.q i).2⟩,(cZ h.r.1 (gW hg)).1,?_⟩;have h1:=kA S.r [dY o S.p]
 have h2:=h.r.2;simp only[List.length_singleton]at h1;show(bT S.r [dY o S.p]).length≤u+1
 omega
theorem iW {L:List T} (h:aJ L) {t:T} (ht:t∈L):aQ L t.m=t.c∧aQ L t.m≠0:=by
 have h1:aQ L t.m=t.c:=by
  induction L with
  |nil=>cases ht
  |cons s r ih=>
   rw[aQ];rcases List.mem_cons.1 ht with rfl|ht'
   ·rw[if_pos (bO.2 rfl)]
   ·have h1:=h.head t ht';rw[if_neg (fun e=>by rw[bO.1 e]at h1;omega)];exact ih h.tail ht'
 have h2:=h.2 t ht;exact⟨h1,by omega⟩
theorem oP {L:List T} (hL:aJ L) {t:T} (ht:t∈L):(cA L [t]).length<L.length:=by
 have ht':=hL.2 t ht;have hf:=dB hL (gW ht')
 have hm:=iW hL ht;have key:cA L [t]=L.filter (fun s=> !eH s.m t.m):=by
  refine kS hf.1 ⟨hL.1.filter _,fun s hs=>hL.2 s (List.mem_filter.1 hs).1⟩ (fun m hmo=>?_);rw[hf.2 m];by_cases e:t.m=m
  ·subst e;have h1:aQ [t] t.m=t.c:=bJ _ _
   rw[h1,hm.1];have h2:aQ (L.filter (fun s=> !eH s.m t.m)) t.m=0:=by
    by_cases hz:aQ (L.filter (fun s=> !eH s.m t.m)) t.m=0
    ·exact hz
    ·obtain⟨s,hs,he⟩:=List.mem_map.1 (iS hz);have:=(List.mem_filter.1 hs).2
     rw[bO.2 he]at this;cases this
   rw[h2];omega
  ·have h1:aQ [t] m=0:=by rw[jE e];rfl
   have hb:=eF hL m;rw[h1];have h2:aQ (L.filter (fun s=> !eH s.m t.m)) m=aQ L m:=by
    by_cases hz:aQ L m=0
    ·rw[hz];by_cases hz2:aQ (L.filter (fun s=> !eH s.m t.m)) m=0
     ·exact hz2
     ·obtain⟨s,hs,he⟩:=List.mem_map.1 (iS hz2);have h3:=(iW hL (List.mem_filter.1 hs).1).2
      rw[show s.m=m from he]at h3;exact absurd hz h3
    ·obtain⟨s,hs,he⟩:=List.mem_map.1 (iS hz);have he:s.m=m:=he
     subst he;have h4:s∈L.filter (fun s=> !eH s.m t.m):=List.mem_filter.2 ⟨hs,by rw[IH.2 (fun e'=>e e'.symm)];rfl⟩
     rw[(iW hL hs).1,(iW (L:=L.filter (fun s=> !eH s.m t.m)) ⟨hL.1.filter _,fun s hs=>hL.2 s (List.mem_filter.1 hs).1⟩ h4).1]
   rw[h2];omega
 rw[key];refine List.length_filter_lt_length_iff_exists.2 ⟨t,ht,?_⟩;rw[bO.2 rfl];decide
theorem kQ {o:Int} {n:Nat} {ln:Nat→Nat} {f:Nat→Nat→T} (hl:aY n ln f=true) {u:Nat} {S S':Dv} (h:iQ u S) (h0:S.p.length≠0) (hs:cP o n ln f S=some S'):iQ (u+1) S':=by
 unfold cP at hs;split at hs
 ·exact h.take hl h0 (by assumption) hs
 ·cases hs;have:=oP (aH h.p).2 (jJ (o:=o) h0)
  have h4:=(aH h.p).1;exact h.leave h0 (by omega)
theorem uL {o:Int} {n:Nat} {ln:Nat→Nat} {f:Nat→Nat→T} (hl:aY n ln f=true):∀{v u:Nat} {S S':Dv},iQ u S→dK o n ln f v S=some S'→iQ (u+v) S'∧S'.p=[]
 |0,u,S,S',h,hr=>by
  unfold dK at hr;split at hr
  ·rename_i h0;cases hr;exact⟨h,List.length_eq_zero_iff.1 h0⟩
  ·cases hr
 |v+1,u,S,S',h,hr=>by
  by_cases h0:S.p.length=0
  ·rw[lL h0]at hr;cases hr;exact⟨⟨h.p,fun k=>⟨(h.q k).1,by have:=(h.q k).2;omega⟩,h.r.1,by have:=h.r.2;omega⟩,List.length_eq_zero_iff.1 h0⟩
  ·cases hs:cP o n ln f S with
   |none=>rw[pO h0 hs]at hr;cases hr
   |some S1=>
    rw[jH h0 hs]at hr;have:=uL hl (kQ hl h h0 hs) hr
    rw[show u+(v+1)=u+1+v by omega];exact this
open Go.RowKit Go.Deep Go.Joins Go.Maps
theorem bI.grown {w w':World} {b:Nat} {t:T} {row:Option Nat} (h:bI w b t) (hg:w.grownBy w' row) (hne:some b≠row):bI w' b t:=by
 have hl:=h.1.lt;have hb:=hg.block b hl hne
 obtain⟨⟨h0,h1,h2,h3,h4⟩,h5⟩:=h;exact⟨⟨(mC (a:=⟨b,0,none⟩) hb).trans h0,(mC (a:=⟨b,1,none⟩) hb).trans h1,(mC (a:=⟨b,2,none⟩) hb).trans h2,(mC (a:=⟨b,3,none⟩) hb).trans h3,(mC (a:=⟨b,4,none⟩) hb).trans h4⟩,fun j=>(World.frozen?_of_block (a:=⟨b,j,none⟩) hb).trans (h5 j)⟩
end Go.Proofs.Ytbkighpmkadmmaa
namespace Go.Proofs.Ytbkighpmkadmmaa
open Go.RowKit Go.Deep Go.Joins
set_option linter.unusedVariables false
structure qO (lo:Nat) (w:World) (a:Option Addr) (n cap:Nat) (ad:Nat→Option Addr) (ln cp:Nat→Nat) (f:Nat→Nat→T) (R:Nat) (B:Nat→Nat):Prop where
 rd:gO w a n cap ad ln cp f
 row:n=0∨∃off,a=some ⟨R,off,none⟩∧lo≤R
 wr:∀i,i<n→Wr w (ad i) (ln i) (f i)
 el:∀i,i<n→ln i=0∨∃off,ad i=some ⟨B i,off,none⟩∧lo≤B i∧B i≠R
 ap:∀i j,i<j→j<n→ln i≠0→ln j≠0→B i≠B j
open Go.RowKit Go.Deep Go.Joins Go.Maps
theorem KB {w w':World} (h:Below w.heap.size w w') (row:Option Nat):w.grownBy w' row:=⟨h.os,h.tape,h.output,h.size,fun k hk _=>h.block k hk⟩
def uC (ad:Nat→Option Addr) (ln cp:Nat→Nat) (j:Nat):List Value:=(List.range j).map fun i=>.slice (ad i) (ln i) (cp i)
theorem EZ {ad:Nat→Option Addr} {ln cp:Nat→Nat} {j i:Nat} (h:i<j):(uC ad ln cp j)[i]? =some (.slice (ad i) (ln i) (cp i)):=by simp[uC,h]
theorem FA {ad:Nat→Option Addr} {ln cp:Nat→Nat} {j:Nat} {a:Option Addr} {c:Nat}:uC (fun i=>if i=j then a else ad i) ln (fun i=>if i=j then c else cp i) (j+1)=uC ad ln cp j++[.slice a (ln j) c]:=by
 unfold uC;rw[List.range_succ,List.map_append];congr 1
 ·refine List.map_congr_left fun i hi=>?_;have:i<j:=by simpa using hi
  dsimp only;rw[if_neg (by omega),if_neg (by omega)]
 ·simp
structure jW (lo:Nat) (wr:World) (q:Nat→List T) (j:Nat) (tv:Value) (ad:Nat→Option Addr) (cp B:Nat→Nat):Prop where
 row:wr.ownsRow lo 29 1 tv j (uC ad (fun i=>(q i).length) cp j)
 el:∀i,i<j→Rd wr (ad i) (q i).length (cp i) (lf (q i))∧Wr wr (ad i) (q i).length (lf (q i))∧((q i).length=0∨∃off,ad i=some ⟨B i,off,none⟩∧lo≤B i∧B i<wr.heap.size∧some (B i)≠tv.ownBlock)
 ap:∀i k,i<k→k<j→(q i).length≠0→(q k).length≠0→B i<B k
 lo:lo≤wr.heap.size
theorem jW.start {lo:Nat} {wr:World} (h:lo≤wr.heap.size) (q:Nat→List T):jW lo wr q 0 (.slice none 0 0) (fun _=>none) (fun _=>0) (fun _=>0):=
 ⟨⟨rfl,.inl ⟨rfl,rfl⟩⟩,fun i hi=>by omega,fun i k _ hk=>by omega,h⟩
theorem jW.below {lo:Nat} {w w':World} {q:Nat→List T} {j:Nat} {tv:Value} {ad:Nat→Option Addr} {cp B:Nat→Nat} (h:jW lo w q j tv ad cp B) (hb:Below w.heap.size w w'):jW lo w' q j tv ad cp B where
 row:=h.row.kept (KB hb none) (by
  cases e:tv.ownBlock with
  |none=>exact .inl rfl
  |some k=>exact .inr (by simp))
 el:=fun i hi=>⟨(h.el i hi).1.below hb,(h.el i hi).2.1.below hb,(h.el i hi).2.2.imp id (fun⟨off,e1,e2,e3,e4⟩=>⟨off,e1,e2,lD e3 hb.size,e4⟩)⟩
 ap:=h.ap
 lo:=kM h.lo hb.size
theorem jW.round {lo:Nat} {w1 w5:World} {q:Nat→List T} {j:Nat} {tv:Value} {ad:Nat→Option Addr} {cp B:Nat→Nat} {m:Nat} (h:jW lo w1 q j tv ad cp B) (hm:∀i,i<j→(q i).length≠0→B i<m) (hmr:∀k,tv.ownBlock=some k→k<m) (hlm:lo≤m) {a:Option Addr} {c:Nat} (ho:oS m w1 a c (q j)) {g0 cap0:Nat} (hgrow:(w1.alloc (.cells #[.slice a (q j).length c] 29)).grownBy w5 tv.ownBlock) (hown:w5.ownsRow lo 29 1 (.slice (some ⟨g0,0,none⟩) (j+1) cap0) (j+1) (uC ad (fun i=>(q i).length) cp j++[.slice a (q j).length c])) (hat:tv.ownBlock=some g0∨g0=w1.heap.size+1) (hlt:g0<w5.heap.size):jW lo w5 q (j+1) (.slice (some ⟨g0,0,none⟩) (j+1) cap0) (fun i=>if i=j then a else ad i) (fun i=>if i=j then c else cp i) (fun i=>if i=j then(match a with|some x=>x.block|none=>0)else B i):=by
 have hb1:=aC w1 (.cells #[.slice a (q j).length c] 29);have hs5:w1.heap.size+1≤w5.heap.size:=by have:=hgrow.size;simpa using this
 have hnew:(q j).length=0∨∃g off,a=some ⟨g,off,none⟩∧m≤g∧g<w1.heap.size:=by
  rcases ho.2.2 with h0|⟨g,off,e,hg⟩
  ·exact .inl h0
  ·by_cases hz:(q j).length=0
   ·exact .inl hz
   ·exact .inr ⟨g,off,e,hg,(ho.1.under.resolve_left hz) g off e⟩
 refine⟨?_,fun i hi=>?_,fun i k hik hk hi0 hk0=>?_,by have:=h.lo;omega⟩
 ·rw[FA (ln:=fun i=>(q i).length)];exact hown
 ·by_cases e:i=j
  ·subst e;simp only[if_pos];refine⟨(ho.1.below hb1).grown hgrow ?_,(ho.2.1.below hb1).grown hgrow ?_,?_⟩
   ·rcases hnew with h0|⟨g,off,e,hg,hgl⟩
    ·exact .inl h0
    ·refine .inr fun b off' e' e2=>?_;rw[e]at e';cases e';have:=hmr g e2.symm
     omega
   ·rcases hnew with h0|⟨g,off,e,hg,hgl⟩
    ·exact .inl h0
    ·refine .inr fun b off' e' e2=>?_;rw[e]at e';cases e';have:=hmr g e2.symm
     omega
   ·rcases hnew with h0|⟨g,off,e,hg,hgl⟩
    ·exact .inl h0
    ·subst e;refine .inr ⟨off,rfl,by show lo≤g;omega,by show g<w5.heap.size;omega,?_⟩;show some g≠some g0
     intro e2;obtain rfl:g=g0:=by simpa using e2
     rcases hat with e3|e3
     ·have:=hmr g e3;omega
     ·omega
  ·simp only[if_neg e];obtain⟨r1,r2,r3⟩:=h.el i (by omega);have hne:(q i).length=0∨∀b off,ad i=some ⟨b,off,none⟩→some b≠tv.ownBlock:=r3.imp id (fun⟨off,e1,_,_,e4⟩ b off' e'=>by rw[e1]at e';cases e';exact e4)
   refine⟨(r1.below hb1).grown hgrow hne,(r2.below hb1).grown hgrow hne,?_⟩;rcases r3 with h0|⟨off,e1,e2,e3,e4⟩
   ·exact .inl h0
   ·refine .inr ⟨off,e1,e2,by omega,?_⟩;show some (B i)≠some g0
    intro e5;obtain e6:B i=g0:=by simpa using e5
    rcases hat with e7|e7
    ·exact e4 (by rw[e6,e7])
    ·omega
 ·show(if i=j then _ else B i)<(if k=j then _ else B k);rw[if_neg (show ¬i=j by omega)];by_cases e:k=j
  ·subst e;rw[if_pos rfl];rcases hnew with h0|⟨g,off,e,hg,hgl⟩
   ·exact absurd h0 hk0
   ·subst e;have:=hm i (by omega) hi0
    show B i<g;omega
  ·rw[if_neg e];exact h.ap i k hik (by omega) hi0 hk0
theorem jW.out {lo:Nat} {w:World} {q:Nat→List T} {n:Nat} {tv:Value} {ad:Nat→Option Addr} {cp B:Nat→Nat} (h:jW lo w q n tv ad cp B) (hn:n*40≤140737488351232):∃qa qc R,tv= .slice qa n qc∧qO lo w qa n qc ad (fun i=>(q i).length) cp (fun i=>lf (q i)) R B:=by
 rcases h.row.2 with⟨e,h0⟩|⟨g,cap,cur,e,hlo,hg,hnc,_⟩
 ·subst h0;exact⟨none,0,0,e,⟨⟨Nat.le_refl _,hn,.inl rfl,fun i hi=>by omega⟩,.inl rfl,fun i hi=>by omega,fun i hi=>by omega,fun i j _ hj=>by omega⟩⟩
 ·have hr:=h.row;rw[e]at hr;have hgl:g<w.heap.size:=(hr.lt g rfl).2
  refine⟨some ⟨g,0,none⟩,cap,g,e,⟨⟨hnc,hn,.inr ⟨g,0,rfl,hgl,fun i hi=>?_⟩,fun i hi=>(h.el i hi).1⟩,.inr ⟨0,rfl,hlo⟩,fun i hi=>(h.el i hi).2.1,fun i hi=>?_,fun i j hij hj hi0 hj0=>?_⟩⟩
  ·rw[Nat.zero_add,hr.cellAt i (by omega),EZ hi]
  ·refine(h.el i hi).2.2.imp id (fun⟨off,e1,e2,_,e4⟩=>⟨off,e1,e2,fun e5=>e4 ?_⟩);rw[e,e5];rfl
  ·have:=h.ap i j hij hj hi0 hj0;omega
end Go.Proofs.Ytbkighpmkadmmaa
