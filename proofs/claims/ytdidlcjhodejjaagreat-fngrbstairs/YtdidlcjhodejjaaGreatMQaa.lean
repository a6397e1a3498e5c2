/-
  Slices of monomials: what the statements' helpers do to them.
-/
import Derived.Test.YtdidlcjhodejjaaGreatMBaa
import Derived.Test.YtdidlcjhodejjaaGreatMKac
set_option maxHeartbeats 8000000
set_option maxRecDepth 100000
namespace Go.Proofs.YtdidlcjhodejjaaGreat
open Go.RowKit
set_option linter.unusedVariables false
def uL (w:World) (b o:Nat) (m:M):Prop:=w.cell? ⟨b,o,none⟩=some (.int .i64 m.x)∧w.cell? ⟨b,o+1,none⟩=some (.int .i64 m.y)∧w.cell? ⟨b,o+2,none⟩=some (.int .i64 m.d)∧w.cell? ⟨b,o+3,none⟩=some (.int .i64 m.e)
theorem uL.same {w w':World} {b o:Nat} {m:M} (h:uL w b o m) (he:w'.heap[b]? =w.heap[b]?):uL w' b o m:=by
 have key:∀j,w'.cell? ⟨b,j,none⟩=w.cell? ⟨b,j,none⟩:=fun j=>by unfold World.cell?;rw[he]
 exact⟨(key _).trans h.1,(key _).trans h.2.1,(key _).trans h.2.2.1,(key _).trans h.2.2.2⟩
theorem uL.below {w w':World} {n b o:Nat} {m:M} (h:uL w b o m) (hb:Below n w w') (hlt:b<n):uL w' b o m:=h.same (hb.block b hlt)
def Gx (w:World) (a:Option Addr) (n cap:Nat) (f:Nat→M):Prop:=
 n≤cap∧n*32≤140737488351232∧(n=0∨∃b off,a=some ⟨b,off,none⟩∧b<w.heap.size∧∀i,i<n→uL w b (off+i*4) (f i))
theorem Gx.below {w w':World} {a:Option Addr} {n cap:Nat} {f:Nat→M} (h:Gx w a n cap f) (hb:Below w.heap.size w w'):Gx w' a n cap f:=
 ⟨h.1,h.2.1,h.2.2.imp id fun⟨b,off,e,hlt,hc⟩=>⟨b,off,e,jY hlt hb.size,fun i hi=>(hc i hi).below hb hlt⟩⟩
theorem Gx.grown {w w':World} {a:Option Addr} {n cap:Nat} {f:Nat→M} {row:Option Nat} (h:Gx w a n cap f) (hg:w.grownBy w' row) (hne:n=0∨∀b off,a=some ⟨b,off,none⟩→some b≠row):Gx w' a n cap f:=by
 refine⟨h.1,h.2.1,?_⟩;rcases h.2.2 with h0|⟨b,off,rfl,hlt,hc⟩
 ·exact .inl h0
 ·rcases hne with h0|hne
  ·exact .inl h0
  ·exact .inr ⟨b,off,rfl,jY hlt hg.size,fun i hi=>(hc i hi).same (hg.block b hlt (hne b off rfl))⟩
def WZ (f:Nat→M) (j:Nat):Value:=if j%4=0 then .int .i64 (f (j / 4)).x else if j%4=1 then .int .i64 (f (j / 4)).y else if j%4=2 then .int .i64 (f (j / 4)).d else .int .i64 (f (j / 4)).e
theorem Pt (f:Nat→M) (i:Nat):WZ f (i*4)= .int .i64 (f i).x:=by unfold WZ;rw[if_pos (by omega),show i*4 / 4=i by omega]
theorem Pu (f:Nat→M) (i:Nat):WZ f (i*4+1)= .int .i64 (f i).y:=by unfold WZ;rw[if_neg (by omega),if_pos (by omega),show(i*4+1) / 4=i by omega]
theorem Pv (f:Nat→M) (i:Nat):WZ f (i*4+2)= .int .i64 (f i).d:=by unfold WZ;rw[if_neg (by omega),if_neg (by omega),if_pos (by omega),show(i*4+2) / 4=i by omega]
theorem Pw (f:Nat→M) (i:Nat):WZ f (i*4+3)= .int .i64 (f i).e:=by unfold WZ;rw[if_neg (by omega),if_neg (by omega),if_neg (by omega),show(i*4+3) / 4=i by omega]
def Hf (w:World) (a:Option Addr) (n:Nat) (f:Nat→M):Prop:=
 n=0∨∃g off N F,a=some ⟨g,off,none⟩∧w.rowIs g 40 N F∧off+n*4≤N∧∀j,j<n*4→F (off+j)=WZ f j
theorem Hf.rd {w:World} {a:Option Addr} {n cap:Nat} {f:Nat→M} (h:Hf w a n f) (hc:n≤cap) (hn:n*32≤140737488351232):Gx w a n cap f:=by
 refine⟨hc,hn,?_⟩;rcases h with h0|⟨g,off,N,F,rfl,hR,hN,hF⟩
 ·exact .inl h0
 ·refine .inr ⟨g,off,rfl,hR.lt,fun i hi=>?_⟩;refine⟨?_,?_,?_,?_⟩
  ·rw[hR.cell (by omega),hF _ (by omega),Pt]
  ·rw[show off+i*4+1=off+(i*4+1) by omega,hR.cell (by omega),hF _ (by omega),Pu]
  ·rw[show off+i*4+2=off+(i*4+2) by omega,hR.cell (by omega),hF _ (by omega),Pv]
  ·rw[show off+i*4+3=off+(i*4+3) by omega,hR.cell (by omega),hF _ (by omega),Pw]
theorem Hf.below {w w':World} {a:Option Addr} {n:Nat} {f:Nat→M} (h:Hf w a n f) (hb:Below w.heap.size w w'):Hf w' a n f:=by
 rcases h with h0|⟨g,off,N,F,rfl,hR,hN,hF⟩
 ·exact .inl h0
 ·exact .inr ⟨g,off,N,F,rfl,hR.of_block (hb.block g hR.lt),hN,hF⟩
theorem Hf.grown {w w':World} {a:Option Addr} {n:Nat} {f:Nat→M} {row:Option Nat} (h:Hf w a n f) (hg:w.grownBy w' row) (hne:n=0∨∀b off,a=some ⟨b,off,none⟩→some b≠row):Hf w' a n f:=by
 rcases h with h0|⟨g,off,N,F,rfl,hR,hN,hF⟩
 ·exact .inl h0
 ·rcases hne with h0|hne
  ·exact .inl h0
  ·exact .inr ⟨g,off,N,F,rfl,hR.of_block (hg.block g hR.lt (hne g off rfl)),hN,hF⟩
def YC (L:List M) (i:Nat):M:=L.getD i ⟨0,0,0,0⟩
def M.cells (m:M):List Value:=[.int .i64 m.x,.int .i64 m.y,.int .i64 m.d,.int .i64 m.e]
def dE (L:List M):List Value:=L.flatMap M.cells
theorem uB (a b:List M):dE (a++b)=dE a++dE b:=by simp[dE]
theorem uO (m:M):dE [m]=[.int .i64 m.x,.int .i64 m.y,.int .i64 m.d,.int .i64 m.e]:=by simp[dE,M.cells]
theorem uC (a:List M):(dE a).length=a.length*4:=by
 induction a with
 |nil=>rfl
 |cons m r ih=>
  have e:dE (m::r)=m.cells++dE r:=rfl;rw[e,List.length_append,ih];simp[M.cells];omega
theorem CZ (m:M):∀u∈dE [m],u.oneCell'=true:=by intro u hu;rw[uO]at hu;simp at hu;rcases hu with rfl|rfl|rfl|rfl<;>rfl
theorem WY (L:List M):∀j,j<L.length*4→(dE L)[j]? =some (WZ (YC L) j):=by
 induction L with
 |nil=>intro j h;simp at h
 |cons t r ih=>
  intro j h;have e:dE (t::r)=t.cells++dE r:=rfl
  rw[e];by_cases hj:j<4
  ·rw[List.getElem?_append_left (by simp[M.cells];omega)];have h5:j=0∨j=1∨j=2∨j=3:=by omega
   rcases h5 with rfl|rfl|rfl|rfl<;>rfl
  ·rw[List.getElem?_append_right (by simp[M.cells];omega),show M.cells t=[.int .i64 t.x,.int .i64 t.y,.int .i64 t.d,.int .i64 t.e]from rfl];simp only[List.length_cons,List.length_nil];rw[ih (j-4) (by simp at h;omega)];obtain⟨q,rfl⟩:∃q,j=q+4:=⟨j-4,by omega⟩
   simp only[Nat.add_sub_cancel];unfold WZ;rw[show(q+4)%4=q%4 by omega,show(q+4) / 4=q / 4+1 by omega];rfl
def Hc (lo:Nat) (w:World) (a:Option Addr) (cap:Nat) (L:List M):Prop:=
 Gx w a L.length cap (YC L)∧Hf w a L.length (YC L)∧(L.length=0∨∃g off,a=some ⟨g,off,none⟩∧lo≤g)
theorem wV {w:World} {lo:Nat} {v:Value} {L:List M} (h:w.ownsRow lo 40 4 v L.length (dE L)) (hl:L.length*32≤140737488351232):∃a cap,v= .slice a L.length cap∧Hc lo w a cap L:=by
 rcases h.2 with⟨hv,h0⟩|⟨g,cap,cur,hv,hlo,hg,hn,hm,hs,ht⟩
 ·refine⟨none,0,by rw[hv,h0],⟨by omega,hl,.inl h0⟩,.inl h0,.inl h0⟩
 ·have hat:∀j,j<L.length*4→cur[j]? =some (WZ (YC L) j):=by intro j hj;rw[←WY L j hj,←ht,List.getElem?_take_of_lt hj];simp
  have hc5:L.length*4≤cap*4:=by omega
  have hrow:w.rowIs g 40 (cap*4) (fun j=>cur.getD j undef):=⟨cur,hg,hs,fun j hj=>by
   have hjs:j<cur.size:=by omega
   show cur[j]? =some (cur.getD j undef)
   rw[Array.getD_eq_getD_getElem?,Array.getElem?_eq_getElem hjs]
   rfl⟩
  have hcell:∀j,j<L.length*4→w.cell? ⟨g,j,none⟩=some (WZ (YC L) j):=by intro j hj;rw[hrow.cell (by omega),Array.getD_eq_getD_getElem?,hat j hj];rfl
  refine⟨some ⟨g,0,none⟩,cap,hv,⟨hn,hl,.inr ⟨g,0,rfl,hrow.lt,fun i hi=>?_⟩⟩,.inr ⟨g,0,cap*4,_,rfl,hrow,by omega,fun j hj=>?_⟩,.inr ⟨g,0,rfl,hlo⟩⟩
  ·rw[Nat.zero_add];exact⟨by rw[hcell _ (by omega),Pt],by rw[hcell _ (by omega),Pu],by rw[hcell _ (by omega),Pv],by rw[hcell _ (by omega),Pw]⟩
  ·rw[Nat.zero_add,Array.getD_eq_getD_getElem?,hat j hj];rfl
theorem Hc.below {lo:Nat} {w w':World} {a:Option Addr} {cap:Nat} {L:List M} (h:Hc lo w a cap L) (hb:Below w.heap.size w w'):Hc lo w' a cap L:=⟨h.1.below hb,h.2.1.below hb,h.2.2⟩
open Go.RowKit Go.Deep Go.Joins
def FE (o:Int) (ln:Nat→Nat) (f:Nat→Nat→T):Nat→List M
 |0=>[]
 |i+1=>FE o ln f i++[(kC o ln f i).m]
theorem oZ (o:Int) (ln:Nat→Nat) (f:Nat→Nat→T):∀i,(FE o ln f i).length=i
 |0=>rfl
 |i+1=>by unfold FE;rw[List.length_append,oZ o ln f i];rfl
def gX (o:Int) (n:Nat) (ln:Nat→Nat) (f:Nat→Nat→T):List M:=if(1≤o∧o≤3)∧aT n ln f=true then FE o ln f n else[]
theorem EA (o:Int) (n:Nat) (ln:Nat→Nat) (f:Nat→Nat→T):(gX o n ln f).length≤12:=by
 unfold gX;split
 ·rename_i h;rw[oZ];exact(aL h.2).1
 ·simp
theorem Cn:(Tryz.prog.info? 40).map (fun i=>(i.zero,i.size,i.bytes))=some (some (.agg #[.int .i64 0,.int .i64 0,.int .i64 0,.int .i64 0]),4,32):=by kernel_rfl
theorem GX (w:World) (lo:Nat):w.ownsRow lo 40 4 (.slice none 0 0) 0 (dE []):=⟨rfl,.inl ⟨rfl,rfl⟩⟩
theorem SM (w:World) (lo:Nat) (h:lo≤w.heap.size):(w.alloc (.cells #[] 40)).ownsRow lo 40 4 (.slice (some ⟨w.heap.size,0,none⟩) 0 0) 0 (dE []):=World.ownsRow_lit _ _ _ h (Nat.zero_le _) rfl
theorem uE (w:World) (o:Int) (a:Option Addr) (n cap:Nat) (hc:Calls Tryz.prog 45 #[.int .i64 o,.slice a n cap] w fun r w'=>r= .returned (.tuple #[.slice none 0 0,.bool false])∧Below w.heap.size w w'):Calls Tryz.prog 21 #[.int .i64 o,.slice a n cap] w fun r w'=>∃v,r= .returned v∧Below w.heap.size w w'∧w'.ownsRow w.heap.size 40 4 v ([]:List M).length (dE []):=by
 go_enter Tryz.func21,Tryz.ntmps21;go_wp2_with fail;refine hc.mono ?_;rintro r w1 ⟨rfl,hb1⟩;have HB:=aA hb1
 clear hb1 hc;go_wp2;go_loopw [7,18] (fun v i wr=>v= .slice none 0 0∧i= .int .i64 0∧wr=w1) (fun _ _ _=>0);case atStart=>exact⟨rfl,rfl,rfl⟩
 case round=>
  obtain⟨rfl,rfl,rfl⟩:=hrel;go_wp2;go_ret;exact⟨_,rfl,HB.out,GX _ _⟩
theorem CE (w:World) (o:Int) (a:Option Addr) (n cap:Nat) (ad:Nat→Option Addr) (ln cp:Nat→Nat) (f:Nat→Nat→T) (h:cZ w a n cap ad ln cp f) (o1:1≤o) (o2:o≤3) (hls:aT n ln f=true):Calls Tryz.prog 21 #[.int .i64 o,.slice a n cap] w fun r w'=>∃v,r= .returned v∧Below w.heap.size w w'∧w'.ownsRow w.heap.size 40 4 v (FE o ln f n).length (dE (FE o ln f n)):=by
 obtain⟨i0,hi0,hz0,hz1,hz2⟩:=info_parts Cn;have hc:=kM w o a n cap ad ln cp f h o1 o2 hls
 have hn:(n:Int)≤12:=by have:=(aL hls).1;omega
 have HLen:=aA (fU o ln f n);have HAt:=aA (oS o ln f n)
 clear h hls;go_enter Tryz.func21,Tryz.ntmps21;go_wp2_with fail;refine hc.mono ?_;rintro r w1 ⟨v,rfl,hb1,ho1⟩;obtain⟨al,cl,rfl,hout⟩:=aH ho1 (by rw[HLen.out];omega);have HB:=aA hb1
 have hR:=hout.1;rw[HLen.out]at hR⊢;have HR:=aA hR
 clear hb1 ho1 hout hc hR;go_wp2;go_loopw [7,18] (fun v i wr=>∃k:Nat,k≤n∧i= .int .i64 (k:Int)∧Below w1.heap.size w1 wr∧wr.ownsRow w1.heap.size 40 4 v (FE o ln f k).length (dE (FE o ln f k))) (fun _ i _=>n-(intOf i).toNat);case atStart=>exact⟨0,Nat.zero_le _,rfl,bL _ _,GX w1 _⟩
 case round=>
  obtain⟨k,hk,rfl,hB,hown⟩:=hrel;have HB3:=aA hB
  have HO3:=aA hown;clear hown;by_cases hlt:k<n
  ·rcases HR.out.2.2 with h0|⟨b,off,rfl,hblt,hcl⟩
   ·omega
   have hkl:(k:Int)<(n:Int):=by omega
   have hck:=(hcl k hlt).below hB hblt;rw[HAt.out k hlt]at hck;obtain⟨t,ht⟩:∃t,kC o ln f k=t:=⟨_,rfl⟩
   rw[ht]at hck;obtain⟨q0,q1,q2,q3,q4⟩:=hck;have e2:FE o ln f (k+1)=FE o ln f k++[t.m]:=by rw[←ht];rfl
   have HE:=aA e2;have HL:=aA (oZ o ln f k)
   have hB5:=hB.alloc hB.size (.cells #[.int .i64 t.c,.int .i64 t.m.x,.int .i64 t.m.y,.int .i64 t.m.d,.int .i64 t.m.e] 42);have hO5:=HO3.out.alloc (.cells #[.int .i64 t.c,.int .i64 t.m.x,.int .i64 t.m.y,.int .i64 t.m.d,.int .i64 t.m.e] 42)
   have hnew:((wr.alloc (.cells #[.int .i64 t.c,.int .i64 t.m.x,.int .i64 t.m.y,.int .i64 t.m.d,.int .i64 t.m.e] 42)).alloc (.cells #[.int .i64 t.m.x,.int .i64 t.m.y,.int .i64 t.m.d,.int .i64 t.m.e] 40)).heap[wr.heap.size+1]? =some (.cells #[.int .i64 t.m.x,.int .i64 t.m.y,.int .i64 t.m.d,.int .i64 t.m.e] 40):=by have:=heap_alloc_new (wr.alloc (.cells #[.int .i64 t.c,.int .i64 t.m.x,.int .i64 t.m.y,.int .i64 t.m.d,.int .i64 t.m.e] 42)) (.cells #[.int .i64 t.m.x,.int .i64 t.m.y,.int .i64 t.m.d,.int .i64 t.m.e] 40);rw[World.size_alloc]at this;exact this
   have HN:=aA hnew;have hwl:=oZ o ln f k
   clear e2 hnew hcl ht;go_wp2_with (at_builtin;refine wpList_append_lies _ rfl (.tmp 22) (.tmp 25) 37 rfl w1.heap.size 40 i0 _ 4 32 Tryz.underlying37 hi0 hz0 hz1 hz2 rfl (by omega) _ (FE o ln f k).length (dE (FE o ln f k)) rfl (hO5.alloc _) ⟨wr.heap.size+1,0,none⟩ 1 1 (dE [t.m]) rfl (by rw[uC];rfl) (by rw[uO];exact World.news_of_block HN.out) (CZ _) (by omega) (by unfold maxLen;omega) (by omega) (by have:=hB.size;simp;omega) _ rfl ?_;intro g0 cap0 w5 hown1 hgrow hat hlt1;have HB:=aA ((hB5.alloc hB5.size _).grown hgrow (jZ hB.size (by simp;omega)) (fun k hk=>(HO3.out.lt k hk).1));have HO1:=aA hown1;clear hown1 hgrow hat hlt1 hO5);go_roundw
   case rel=>exact⟨k+1,by omega,by go_num,HB.out,by
    have h:=HO1.out;rw[HE.out,uB,List.length_append];rw[HL.out]at h⊢
    exact h⟩
   case measure=>simp[intOf];omega
  ·have hnl:¬(k:Int)<(n:Int):=by omega
   have hie:k=n:=by omega
   subst hie;go_wp2;go_ret;exact⟨_,rfl,aB HB.out HB3.out,DE HO3.out HB.out.size⟩
theorem RB (w:World) (o:Int) (a:Option Addr) (n cap:Nat) (ad:Nat→Option Addr) (ln cp:Nat→Nat) (f:Nat→Nat→T) (h:cZ w a n cap ad ln cp f):Calls Tryz.prog 21 #[.int .i64 o,.slice a n cap] w fun r w'=>∃v,r= .returned v∧Below w.heap.size w w'∧w'.ownsRow w.heap.size 40 4 v (gX o n ln f).length (dE (gX o n ln f)):=by
 unfold gX;by_cases ho:1≤o∧o≤3
 ·cases hls:aT n ln f
  ·rw[if_neg (by simp)];exact uE w o a n cap (jM w o a n cap ad ln cp f h ho.1 ho.2 hls)
  ·rw[if_pos ⟨ho,rfl⟩];exact CE w o a n cap ad ln cp f h ho.1 ho.2 hls
 ·rw[if_neg (fun h=>ho h.1)];exact uE w o a n cap (iS w o a n cap (by omega))
theorem RD (w:World) (o:Int) (a:Option Addr) (n cap:Nat) (ad:Nat→Option Addr) (ln cp:Nat→Nat) (f:Nat→Nat→T) (h:cZ w a n cap ad ln cp f):Calls Tryz.prog 22 #[.int .i64 o,.slice a n cap] w fun r w'=>∃v,r= .returned v∧Below w.heap.size w w'∧w'.ownsRow w.heap.size 40 4 v (gX o n ln f).length (dE (gX o n ln f)):=by
 obtain⟨i0,hi0,hz0,hz1,hz2⟩:=info_parts Cn;have hn:(n:Int)≤140737488351232:=by have:=h.2.1;omega
 have HB0:=aA (aC w (.cells #[] 40));have HO0:=aA (SM w w.heap.size (Nat.le_refl _))
 have HH:=aA h;clear h;unfold gX;by_cases ho:1≤o∧o≤3
 ·obtain⟨o1,o2⟩:=ho;cases hls:aT n ln f
  ·rw[if_neg (by simp)];go_enter Tryz.func22,Tryz.ntmps22;go_wp2_with (go_at_call 39;refine(cQ _ _ _ _ o1 o2).mono ?_;rintro r w' ⟨rfl,hw'⟩;obtain rfl:=hw'.symm;clear hw');refine(kE _ _ _ _ _ _ _ _ (HH.out.below HB0.out)).mono ?_;rw[hls];rintro r w1 ⟨rfl,hb1⟩;have HB1:=aA (aB HB0.out hb1)
   have HO1:=aA (dC HO0.out hb1);clear hb1;go_wp2;go_ret;exact⟨_,rfl,HB1.out,HO1.out⟩
  ·rw[if_pos ⟨⟨o1,o2⟩,rfl⟩];have HO:=aA (aL hls).2
   have hn12:(n:Int)≤12:=by have:=(aL hls).1;omega
   go_enter Tryz.func22,Tryz.ntmps22;go_wp2_with (go_at_call 39;refine(cQ _ _ _ _ o1 o2).mono ?_;rintro r w' ⟨rfl,hw'⟩;obtain rfl:=hw'.symm;clear hw');refine(kE _ _ _ _ _ _ _ _ (HH.out.below HB0.out)).mono ?_;rw[hls];rintro r w1 ⟨rfl,hb1⟩;have HB1:=aA (aB HB0.out hb1)
   have HO1:=aA (dC HO0.out hb1);clear hb1 hls HB0 HO0;go_wp2;go_loopw [5,6] (fun v i wr=>∃k:Nat,k≤n∧i= .int .i64 (k:Int)∧Below w.heap.size w wr∧wr.ownsRow w.heap.size 40 4 v (FE o ln f k).length (dE (FE o ln f k))) (fun _ i _=>n-(intOf i).toNat);case atStart=>exact⟨0,Nat.zero_le _,rfl,HB1.out,HO1.out⟩
   case round=>
    obtain⟨k,hk,rfl,hB,hown⟩:=hrel;have HB3:=aA hB
    have HO3:=aA hown;clear hown;by_cases hlt:k<n
    ·rcases HH.out.2.2.1 with h0|⟨b,off,rfl,hblt,hcl⟩
     ·omega
     have hkl:(k:Int)<(n:Int):=by omega
     have g0:wr.cell? ⟨b,off+k,none⟩=some (.slice (ad k) (ln k) (cp k)):=(hB.cell (p:=⟨b,off+k,none⟩) hblt).trans (hcl k hlt);have HK:=aA ((HH.out.2.2.2 k hlt).below hB)
     have hoi:=HO.out k hlt;have hc:=qV wr o (ad k) (ln k) (cp k) (f k) HK.out (by omega) (tO hoi.2)
     obtain⟨t,ht⟩:∃t,kC o ln f k=t:=⟨_,rfl⟩
     rw[show f k (bD o (f k) (ln k))=t from ht]at hc;have hfield:∀W:World,(Instr.field 42 (Value.agg #[.int .i64 t.c,.int .i64 t.m.x,.int .i64 t.m.y,.int .i64 t.m.d,.int .i64 t.m.e]) 1).run Tryz.prog W= .ok (Value.agg #[.int .i64 t.m.x,.int .i64 t.m.y,.int .i64 t.m.d,.int .i64 t.m.e]) W:=fun W=>by kernel_rfl
     have e2:FE o ln f (k+1)=FE o ln f k++[t.m]:=by rw[←ht];rfl
     have HE:=aA e2;have HL:=aA (oZ o ln f k)
     have hwl:=oZ o ln f k;clear hcl hoi e2 ht hB;go_wp2_with fail;refine hc.mono ?_;rintro r w4 ⟨rfl,hb4⟩;have hB4:=aB HB3.out hb4
     have hO4:=dC HO3.out hb4;have hnew:=heap_alloc_new w4 (.cells #[.int .i64 t.m.x,.int .i64 t.m.y,.int .i64 t.m.d,.int .i64 t.m.e] 40)
     have HN:=aA hnew;clear hb4 g0 hc HK hnew;go_wp2_with (at_builtin;refine wpList_append_lies _ rfl (.tmp 23) (.tmp 31) 37 rfl w.heap.size 40 i0 _ 4 32 Tryz.underlying37 hi0 hz0 hz1 hz2 rfl (by omega) _ (FE o ln f k).length (dE (FE o ln f k)) rfl (hO4.alloc _) ⟨w4.heap.size,0,none⟩ 1 1 (dE [t.m]) rfl (by rw[uC];rfl) (by rw[uO];exact World.news_of_block HN.out) (CZ _) (by omega) (by unfold maxLen;omega) (by omega) (by have:=hB4.size;simp;omega) _ rfl ?_;intro g0 cap0 w5 hown1 hgrow hat hlt1;have HB:=aA ((hB4.alloc hB4.size _).grown hgrow (jZ hB4.size (by simp)) (fun k hk=>(hO4.lt k hk).1));have HO1:=aA hown1;clear hown1 hgrow hat hlt1 hO4);go_roundw
     case rel=>exact⟨k+1,by omega,by go_num,HB.out,by
      have h:=HO1.out;rw[HE.out,uB,List.length_append];rw[HL.out]at h⊢
      exact h⟩
     case measure=>simp[intOf];omega
    ·have hnl:¬(k:Int)<(n:Int):=by omega
     have hie:k=n:=by omega
     subst hie;go_wp2;go_ret;exact⟨_,rfl,HB3.out,HO3.out⟩
 ·rw[if_neg (fun h=>ho h.1)];have ho':o<1∨(1≤o∧3<o):=by omega
  go_enter Tryz.func22,Tryz.ntmps22;go_wp2_with (go_at_call 39;refine(eC _ _ _ _ ho').mono ?_;rintro r w' ⟨rfl,hw'⟩;obtain rfl:=hw'.symm;clear hw');go_ret;exact⟨_,rfl,HB0.out,HO0.out⟩
def Sw (w:World) (e:Ending) (w':World):Prop:=∃(o:Int) (a:Option Addr) (n c:Nat) (ad:Nat→Option Addr) (cp:Nat→Nat) (L:Nat→List T),e= .returned (.tuple #[.int .i64 o,.slice a n c])∧cZ w' a n c ad (lN L) cp (fN L)∧n≤12∧Below w.heap.size w w'
theorem XF (w:World) (a:Option Addr) (len cap:Nat) (h:WM w a len cap):Calls Tryz.prog 20 #[.slice a len cap] w (Sw w):=by
 go_enter Tryz.func20,Tryz.ntmps20;go_wp2_with fail;refine(DA _ _ _ _ h).mono ?_;rintro e w1 ⟨rfl,hR1,b1⟩;have hl1:=hR1.lt
 clear h;go_wp2_with fail;refine(BJ w1 _ _ hR1 (by omega)).mono ?_;rintro e w2 ⟨o,la,n,lc,lad,lcp,L,q2,rfl,hr2,hn12,hq2,hR2,s2⟩;have b2:=s2.below b1 (Nat.le_refl _) (by omega)
 have HL2:=aA hr2;have HB2:=aA b2
 clear hR1 s2 b1 hr2 b2 hR2;go_wp2;refine bY (v:=.tuple #[.int .i64 o,.slice la n lc]) (by simp[results,Tryz.results20,go_sem, *]) rfl ?_;exact⟨o,la,n,lc,lad,lcp,L,rfl,HL2.out.1,hn12,HB2.out⟩
theorem VT {o:Int} {n:Nat} {L:Nat→List T} (h:(1≤o∧o≤3)∧aT n (lN L) (fN L)=true):(gX o n (lN L) (fN L)).length=n∧∀i,i<n→YC (gX o n (lN L) (fN L)) i=(aV o (L i)).m:=by
 have e:gX o n (lN L) (fN L)=FE o (lN L) (fN L) n:=if_pos h;rw[e];refine⟨oZ _ _ _ _,fun i hi=>?_⟩;have key:∀n i,i<n→YC (FE o (lN L) (fN L) n) i=(kC o (lN L) (fN L) i).m:=fun n=>by
  induction n with
  |zero=>intro i hi;omega
  |succ n ih=>
   intro i hi;have hl:=oZ o (lN L) (fN L) n
   unfold FE YC;by_cases e:i=n
   ·subst e;rw[List.getD_eq_getElem?_getD,List.getElem?_append_right (by omega),hl];simp
   ·have:=ih i (by omega);unfold YC at this;rw[List.getD_eq_getElem?_getD]at this⊢;rw[List.getElem?_append_left (by omega)];exact this
 exact key n i hi
theorem Oj {o:Int} {n:Nat} {L:Nat→List T} (h:¬((1≤o∧o≤3)∧aT n (lN L) (fN L)=true)):gX o n (lN L) (fN L)=[]:=if_neg h
theorem VS {w:World} {o:Int} {a:Option Addr} {n cap:Nat} {ad:Nat→Option Addr} {cp:Nat→Nat} {L:Nat→List T} (h:cZ w a n cap ad (lN L) cp (fN L)) {ST:List M} (hS:gX o n (lN L) (fN L)=ST):Calls Tryz.prog 21 #[.int .i64 o,.slice a n cap] w fun r w'=>∃sa sc,r= .returned (.slice sa ST.length sc)∧Below w.heap.size w w'∧Gx w' sa ST.length sc (YC ST):=by
 refine(RB w o a n cap ad (lN L) cp (fN L) h).mono ?_;rintro r w' ⟨v,rfl,hb,ho⟩;have hl:=EA o n (lN L) (fN L)
 rw[hS]at ho hl;obtain⟨sa,sc,rfl,hO⟩:=wV ho (by omega);exact⟨sa,sc,rfl,hb,hO.1⟩
theorem Ru {w:World} {o:Int} {a:Option Addr} {n cap:Nat} {ad:Nat→Option Addr} {cp:Nat→Nat} {L:Nat→List T} (h:cZ w a n cap ad (lN L) cp (fN L)) {ST:List M} (hS:gX o n (lN L) (fN L)=ST):Calls Tryz.prog 22 #[.int .i64 o,.slice a n cap] w fun r w'=>∃sa sc,r= .returned (.slice sa ST.length sc)∧Below w.heap.size w w'∧Gx w' sa ST.length sc (YC ST):=by
 refine(RD w o a n cap ad (lN L) cp (fN L) h).mono ?_;rintro r w' ⟨v,rfl,hb,ho⟩;have hl:=EA o n (lN L) (fN L)
 rw[hS]at ho hl;obtain⟨sa,sc,rfl,hO⟩:=wV ho (by omega);exact⟨sa,sc,rfl,hb,hO.1⟩
theorem VG {w:World} {a:Option Addr} {cap:Nat} {L:Nat→List T}:cZ w a 0 cap (fun _=>none) (lN L) (fun _=>0) (fN L):=
 ⟨Nat.zero_le _,Nat.zero_le _,.inl rfl,fun i hi=>absurd hi (rT _)⟩
theorem zC (w:World) (a0:Option Addr) (len0 cap0:Nat) (s0:WM w a0 len0 cap0):Calls Tryz.prog 6 #[.slice a0 len0 cap0] w fun e w'=>e= .returned (.bool true)∧Below w.heap.size w w':=by
 by_cases c0:(1048576:Int)<(len0:Int)
 ·go_enter Tryz.func6,Tryz.ntmps6;go_wp2;go_ret;exact⟨rfl,bL _ _⟩
 go_enter Tryz.func6,Tryz.ntmps6;go_wp2_with fail;refine(XF _ _ _ _ s0).mono ?_;rintro e w1 ⟨o,a,n,c,ad,cp,L,rfl,hr,hn,b1⟩;have HR:=aA hr
 have HB:=aA b1;have hnI:(n:Int)≤12:=by omega
 clear s0 hr b1;obtain⟨ST,hST⟩:∃ST,gX o n (lN L) (fN L)=ST:=⟨_,rfl⟩
 have HST:=aA hST;clear hST;go_wp2_with fail;refine(VS HR.out HST.out).mono ?_;rintro e w2 ⟨sa,sc,rfl,hb2,hs2⟩;have HB2:=aA (aB HB.out hb2)
 have HR2:=aA (HR.out.below hb2);have HS2:=aA hs2
 clear hb2 hs2 HR HB;go_wp2_with fail;refine(Ru HR2.out HST.out).mono ?_;rintro e w3 ⟨ta,tc,rfl,hb3,ht3⟩;have HB3:=aA (aB HB2.out hb3)
 have HR3:=aA (HR2.out.below hb3);have HS3:=aA (HS2.out.below hb3)
 have HT3:=aA ht3;clear hb3 ht3 HR2 HB2 HS2;by_cases hg:(1≤o∧o≤3)∧aT n (lN L) (fN L)=true;rotate_left
 ·have e0:ST=[]:=by rw[←HST.out];exact Oj hg
  subst e0;have hGL:aU o n L=none:=if_neg hg
  have HC:=aA (kK w3 o a n c ad cp L HR3.out);rw[hGL]at HC;go_wp2;go_loopw [7] (fun v wr=>v= .int .i64 0∧wr=w3) (fun _ _=>0);case atStart=>exact⟨rfl,rfl⟩
  case round=>
   obtain⟨rfl,rfl⟩:=hrel;go_wp2_with fail;refine HC.out.mono ?_;rintro e w4 ⟨hb4,hh⟩;rcases hh with⟨l,qa,qc,ad',cp',Rb,B,q,_⟩|⟨_,rfl⟩
   ·cases q
   have HB4:=aA (aB HB3.out hb4);have HR4:=aA (HR3.out.below hb4)
   obtain⟨ST2,hST2⟩:∃ST2,gX o 0 (lN L) (fN L)=ST2:=⟨_,rfl⟩
   have hl2:ST2=[]:=by rw[←hST2];unfold gX;split<;>rfl
   subst hl2;have HST2:=aA hST2
   clear hb4 hST2 hGL;go_wp2_with fail;refine(VS (L:=L) VG HST2.out).mono ?_;rintro e w5 ⟨ua,uc,rfl,hb5,_⟩;have HB5:=aA (aB HB4.out hb5)
   have HR5:=aA (HR4.out.below hb5);clear hb5;go_wp2;go_loopw [13] (fun v w'=>v= .int .i64 0∧w'=w5) (fun _ _=>0);case atStart=>exact⟨rfl,rfl⟩
   case round=>
    obtain⟨rfl,rfl⟩:=hrel;by_cases hn0:n=0
    ·subst hn0;go_wp2_with fail;refine(mO _).mono ?_;rintro e w6 ⟨rfl,hb6⟩;have HB6:=aA (aB HB5.out hb6)
     clear hb6;go_wp2;go_ret;exact⟨rfl,HB6.out⟩
    ·have hnz:((0:Int)==(n:Int))=false:=by rw[beq_eq_false_iff_ne];omega
     have hnz2:(n:Int)≠0:=by omega
     have hnz3:¬(0:Int)=(n:Int):=by omega
     cases hl:aT n (lN L) (fN L)
     ·go_wp2_with fail;refine(kE _ a n c ad (lN L) cp (fN L) HR5.out).mono ?_;rw[hl];rintro e w6 ⟨rfl,hb6⟩;have HB6:=aA (aB HB5.out hb6)
      clear hb6;go_wp2_with fail;refine(mO _).mono ?_;rintro e w7 ⟨rfl,hb7⟩;have HB7:=aA (aB HB6.out hb7)
      clear hb7;go_wp2;go_ret;exact⟨rfl,HB7.out⟩
     ·have ho:o<1∨(1≤o∧3<o):=by
       rcases Classical.em (1≤o∧o≤3)with q|q
       ·exact absurd ⟨q,hl⟩ hg
       ·omega
      clear hg;rcases ho with q|⟨q,q'⟩
      all_goals
       go_wp2_with fail;refine(kE _ a n c ad (lN L) cp (fN L) HR5.out).mono ?_;rw[hl];rintro e w6 ⟨rfl,hb6⟩;have HB6:=aA (aB HB5.out hb6)
       clear hb6;go_wp2_with fail;refine(mO _).mono ?_;rintro e w7 ⟨rfl,hb7⟩;have HB7:=aA (aB HB6.out hb7)
       clear hb7;go_wp2;go_ret;exact⟨rfl,HB7.out⟩
 ·obtain⟨hlen,hat⟩:=VT hg;rw[HST.out]at hlen hat;rw[hlen]at HS3 HT3⊢;have HAT:=aA hat
  have HLO:=aA (aL hg.2).2;clear hat hlen;go_wp2;go_loopw [7] (fun v wr=>∃i:Nat,i≤n∧v= .int .i64 (i:Int)∧Below w3.heap.size w3 wr) (fun v _=>n-(intOf v).toNat);case atStart=>exact⟨0,Nat.zero_le _,rfl,bL _ _⟩
  case round=>
   obtain⟨i,hi,rfl,hB⟩:=hrel;have HBr:=aA hB
   by_cases hlt:i<n
   ·have hil:(i:Int)<(n:Int):=by omega
    obtain⟨b1,off1,ea,hb1,hc1⟩:=(HR3.out.below hB).2.2.1.resolve_left (by omega);obtain⟨l,hlen⟩:∃l,(L i).length=l:=⟨_,rfl⟩
    have kc:wr.cell? ⟨b1,off1+i,none⟩=some (.slice (ad i) l (cp i)):=by rw[←hlen];exact hc1 i hlt
    obtain⟨hk0,hpk⟩:=HLO.out i hlt;have e1:bF o (L i).length (lf (L i))=true:=fT.2 ⟨hg.1,hpk,fun e=>hk0 (by show(L i).length=0;rw[e];rfl)⟩
    have t1:bQ o (L i).length (lf (L i))=aV o (L i):=dP e1;have hat:=HAT.out i hlt
    obtain⟨t,ht⟩:∃t,aV o (L i)=t:=⟨_,rfl⟩
    rw[ht]at hat t1;have hcall:=kV wr o (ad i) (L i).length (cp i) (lf (L i)) ((HR3.out.below hB).2.2.2 i hlt)
    rw[t1,e1,hlen]at hcall;have HCL:=aA hcall
    obtain⟨sb,so,esa,hsb,hsc⟩:=(HS3.out.below hB).2.2.resolve_left (by omega);obtain⟨tb,to,eta,htb,htc⟩:=(HT3.out.below hB).2.2.resolve_left (by omega);have HSC:=aA (hsc i hlt)
    have HTC:=aA (htc i hlt);rw[hat]at HSC HTC;subst ea esa eta;clear hB hc1 hk0 hpk e1 t1 hcall hsc htc hat hlen ht;go_wp2_with fail;refine HCL.out.mono ?_;rintro r w4 ⟨rfl,hb4⟩;have bx:=aC w4 (.cells #[.int .i64 t.c,.int .i64 t.m.x,.int .i64 t.m.y,.int .i64 t.m.d,.int .i64 t.m.e] 42)
    have HB4:=aA (aB (aB HBr.out hb4) bx);obtain⟨y0,y1,y2,y3,y4⟩:=C5.box w4 42 t;obtain⟨p0,p1,p2,p3⟩:=((HSC.out.below hb4 hsb).below bx (jY hsb hb4.size))
    obtain⟨q0,q1,q2,q3⟩:=((HTC.out.below hb4 htb).below bx (jY htb hb4.size))
    clear hb4 bx HCL kc;go_wp2_with fail;generalize(w4.alloc (.cells #[.int .i64 t.c,.int .i64 t.m.x,.int .i64 t.m.y,.int .i64 t.m.d,.int .i64 t.m.e] 42))=w5 at HB4 y0 y1 y2 y3 y4 p0 p1 p2 p3 q0 q1 q2 q3⊢
    go_quiet (fail)
    go_wp2;go_roundw;case rel=>exact⟨i+1,by omega,by go_num,below_drewN HB4.out _⟩
    case measure=>simp[intOf];omega
   ·have hil:¬(i:Int)<(n:Int):=by omega
    have hie:i=n:=by omega
    subst hie;have HR4:=aA (HR3.out.below hB)
    have HB4:=aA (aB HB3.out hB);clear hB;have hnn:((i:Int)==(i:Int))=true:=by simp
    cases hGL:aU o i L with
    |none=>
     have HC4:=aA (kK wr o a i c ad cp L HR4.out);rw[hGL]at HC4;go_wp2_with fail;refine HC4.out.mono ?_;rintro e w4 ⟨hb4,hh⟩;rcases hh with⟨l,qa,qc,ad',cp',Rb,B,q,_⟩|⟨_,rfl⟩
     ·cases q
     have HB5:=aA (aB HB4.out hb4);obtain⟨ST2,hST2⟩:∃ST2,gX o 0 (lN L) (fN L)=ST2:=⟨_,rfl⟩
     have hl2:ST2=[]:=by rw[←hST2];unfold gX;split<;>rfl
     subst hl2;have HST2:=aA hST2
     clear hb4 hST2 hGL;go_wp2_with fail;refine(VS (L:=L) VG HST2.out).mono ?_;rintro e w5 ⟨ua,uc,rfl,hb5,_⟩;have HB6:=aA (aB HB5.out hb5)
     clear hb5;go_wp2;go_loopw [13] (fun v w'=>v= .int .i64 0∧w'=w5) (fun _ _=>0);case atStart=>exact⟨rfl,rfl⟩
     case round=>
      obtain⟨rfl,rfl⟩:=hrel;go_wp2_with fail;refine(mO _).mono ?_;rintro e w7 ⟨rfl,hb7⟩;have HB7:=aA (aB HB6.out hb7)
      clear hb7;go_wp2;go_ret;exact⟨rfl,HB7.out⟩
    |some l=>
     have hLs:=iZ hGL;have HLs:=aA hLs
     have hl12:=hLs.le;have hg2:(1≤o∧o≤3)∧aT l.length (lN (bC l)) (fN (bC l))=true:=⟨hg.1,wT hLs.ok hLs.le⟩
     obtain⟨hlen2,hat2⟩:=VT hg2;obtain⟨ST2,hST2⟩:∃ST2,gX o l.length (lN (bC l)) (fN (bC l))=ST2:=⟨_,rfl⟩
     rw[hST2]at hlen2 hat2;have HST2:=aA hST2
     have HAT2:=aA hat2;have HC4:=aA (kK wr o a i c ad cp L HR4.out)
     rw[hGL]at HC4;obtain⟨N,hN⟩:∃N,l.length=N:=⟨_,rfl⟩
     have HN:=aA hN;rw[hN]at hlen2 hl12;have hNI:(N:Int)≤12:=by omega
     have HLN2:=aA hlen2;clear hg2 hlen2 hat2 hST2 hLs hN hGL;go_wp2_with fail;refine HC4.out.mono ?_;rintro e w4 ⟨hb4,hh⟩;rcases hh with⟨l',qa,qc,ad',cp',Rb,B,q,rfl,hO⟩|⟨q,_⟩
     rotate_left
     ·cases q
     cases q;have HB5:=aA (aB HB4.out hb4)
     have HX5:=aA hO.rd;clear hb4 hO HC4;go_wp2_with fail;refine(VS HX5.out HST2.out).mono ?_;rw[HLN2.out];rintro e w5 ⟨ua,uc,rfl,hb5,hu5⟩;have HB6:=aA (aB HB5.out hb5)
     have HU:=aA hu5;clear hb5 hu5;go_wp2;go_loopw [13] (fun v w'=>∃k:Nat,k≤N∧v= .int .i64 (k:Int)∧Below w5.heap.size w5 w') (fun v _=>N-(intOf v).toNat);case atStart=>exact⟨0,Nat.zero_le _,rfl,bL _ _⟩
     case round=>
      obtain⟨k,hk,rfl,hBk⟩:=hrel;have HBk:=aA hBk
      by_cases hkN:k<N
      ·have hkI:(k:Int)<(N:Int):=by omega
       obtain⟨wo,hwo⟩:∃x,x=wr:=⟨_,rfl⟩
       clear hBk;go_wp2;go_loopw [14] (fun v w'=>∃m:Nat,m≤N∧v= .int .i64 (m:Int)∧Below w5.heap.size w5 w') (fun v _=>N-(intOf v).toNat);case atStart=>exact⟨0,Nat.zero_le _,rfl,HBk.out⟩
       case round=>
        obtain⟨m,hm,rfl,hBm⟩:=hrel;have HBm:=aA hBm
        by_cases hmN:m<N
        ·have hmI:(m:Int)<(N:Int):=by omega
         by_cases hkm:k=m
         ·subst hkm;have hne:((k:Int)!=(k:Int))=false:=by simp
          have ne:=bJ.there wr;clear hBm;go_wp2_with fail;refine aG (by kernel_rfl) (by kernel_rfl) ?_;repeat(go_big_quiet_step (fail))
          refine wpQuiet_nil ?_;rintro _ ⟨v,rfl⟩;have HV:=aA (aB HBm.out v.2)
          clear ne;go_wp2;go_roundw;case rel=>exact⟨k+1,by omega,by go_num,HV.out⟩
          case measure=>simp[intOf];omega
         ·have hne:((k:Int)!=(m:Int))=true:=by simp;omega
          have hne2:¬(k:Int)=(m:Int):=by omega
          have hne3:¬k=m:=hkm;obtain⟨ub,uo,eu,hub,huc⟩:=(HU.out.below hBm).2.2.resolve_left (by omega);obtain⟨A,hA⟩:∃A,(aV o (bC l k)).m=A:=⟨_,rfl⟩
          obtain⟨C,hC⟩:∃C,(aV o (bC l m)).m=C:=⟨_,rfl⟩
          have hAe:YC ST2 k=A:=by rw[HAT2.out k (by rw[HN.out];exact hkN),hA]
          have hCe:YC ST2 m=C:=by rw[HAT2.out m (by rw[HN.out];exact hmN),hC]
          have ka:=huc k hkN;have kb:=huc m hmN
          rw[hAe]at ka;rw[hCe]at kb;obtain⟨a0',a1',a2',a3'⟩:=ka;obtain⟨b0',b1',b2',b3'⟩:=kb;have hdv:M.dvd A C=false:=by rw[←hA,←hC];exact HLs.out.anti k m (by rw[HN.out];exact hkN) (by rw[HN.out];exact hmN) hkm
          have hcall:∀u:bJ wr,Calls Tryz.prog 24 #[.agg #[.int .i64 A.x,.int .i64 A.y,.int .i64 A.d,.int .i64 A.e],.agg #[.int .i64 C.x,.int .i64 C.y,.int .i64 C.d,.int .i64 C.e]] u.1 fun r w'=>r= .returned (.bool false)∧Below u.1.heap.size u.1 w':=fun u=>jB hdv u.1;have ne:=bJ.there wr
          have s0:∀u:bJ wr,u.1.cell? ⟨ub,uo+k*4,none⟩=some (.int .i64 A.x):=fun u=>(u.cell hub).trans a0';have s1:∀u:bJ wr,u.1.cell? ⟨ub,uo+k*4+1,none⟩=some (.int .i64 A.y):=fun u=>(u.cell hub).trans a1'
          have s2:∀u:bJ wr,u.1.cell? ⟨ub,uo+k*4+2,none⟩=some (.int .i64 A.d):=fun u=>(u.cell hub).trans a2';have s3:∀u:bJ wr,u.1.cell? ⟨ub,uo+k*4+3,none⟩=some (.int .i64 A.e):=fun u=>(u.cell hub).trans a3'
          have t0:∀u:bJ wr,u.1.cell? ⟨ub,uo+m*4,none⟩=some (.int .i64 C.x):=fun u=>(u.cell hub).trans b0';have t1:∀u:bJ wr,u.1.cell? ⟨ub,uo+m*4+1,none⟩=some (.int .i64 C.y):=fun u=>(u.cell hub).trans b1'
          have t2:∀u:bJ wr,u.1.cell? ⟨ub,uo+m*4+2,none⟩=some (.int .i64 C.d):=fun u=>(u.cell hub).trans b2';have t3:∀u:bJ wr,u.1.cell? ⟨ub,uo+m*4+3,none⟩=some (.int .i64 C.e):=fun u=>(u.cell hub).trans b3'
          subst eu;clear hBm huc hA hC hAe hCe a0' a1' a2' a3' b0' b1' b2' b3' hdv;go_wp2_with fail;refine aG (by kernel_rfl) (by kernel_rfl) ?_;repeat(go_big_quiet_step (first|(go_at_call 24;exact aJ (hcall _))|fail))
          refine wpQuiet_nil ?_;rintro _ ⟨v,rfl⟩;have HV:=aA (aB HBm.out v.2)
          clear ne s0 s1 s2 s3 t0 t1 t2 t3 hcall;go_wp2;go_roundw;case rel=>exact⟨m+1,by omega,by go_num,HV.out⟩
          case measure=>simp[intOf];omega
        ·have hmI:¬(m:Int)<(N:Int):=by omega
         clear hBm;go_wp2;go_roundw;case rel=>exact⟨k+1,by omega,by go_num,HBm.out⟩
         case measure=>simp[intOf];omega
      ·have hkI:¬(k:Int)<(N:Int):=by omega
       clear hBk;go_wp2_with fail;refine(mO _).mono ?_;rintro e w7 ⟨rfl,hb7⟩;have HB7:=aA (aB (aB HB6.out HBk.out) hb7)
       clear hb7;go_wp2;go_ret;exact⟨rfl,HB7.out⟩
end Go.Proofs.YtdidlcjhodejjaaGreat
