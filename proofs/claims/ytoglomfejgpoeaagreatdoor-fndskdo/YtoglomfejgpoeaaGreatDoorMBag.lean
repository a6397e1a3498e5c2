/-
  The draw of a list of operators: some operators, each in memory of its own.
-/
import Derived.Test.YtoglomfejgpoeaaGreatDoorMBaf
import Derived.Test.YtoglomfejgpoeaaGreatDoorMay
import Derived.Test.YtoglomfejgpoeaaGreatDoorMaz
set_option maxHeartbeats 16000000
set_option maxRecDepth 100000
namespace Go.Proofs.YtoglomfejgpoeaaGreatDoor
open Go.RowKit Go.Deep Go.Joins
set_option linter.unusedVariables false
def El (w:World) (lo:Nat) (g:Option Nat) (v:Value):Prop:=∃a n c f,v= .slice a n c∧Rd w a n c f∧n≤5∧(n=0∨∃b off,a=some ⟨b,off,none⟩∧lo≤b∧some b≠g)
theorem El.below {w w':World} {lo:Nat} {g:Option Nat} {v:Value} (h:El w lo g v) (hb:Below w.heap.size w w'):El w' lo g v:=by obtain⟨a,n,c,f,rfl,hr,hn,hx⟩:=h;exact⟨a,n,c,f,rfl,hr.below hb,hn,hx⟩
theorem El.beside {w w':World} {B lo:Nat} {g:Option Nat} {v:Value} (h:El w lo g v) (hb:aH B w w') (hB:B<lo):El w' lo g v:=by
 obtain⟨a,n,c,f,rfl,hr,hn,hx⟩:=h;refine⟨a,n,c,f,rfl,hr.beside hb ?_,hn,hx⟩;rcases hx with h0|⟨b,off,rfl,hlo,_⟩
 ·exact .inl h0
 ·exact .inr fun b' off' e=>by cases e;omega
theorem El.none {w:World} {lo:Nat} {g:Option Nat} {v:Value} (h:El w lo g v):El w lo none v:=by obtain⟨a,n,c,f,rfl,hr,hn,hx⟩:=h;exact⟨a,n,c,f,rfl,hr,hn,hx.imp id fun⟨b,off,e,hlo,_⟩=>⟨b,off,e,hlo,by simp⟩⟩
theorem El.grown {w w':World} {lo g H:Nat} {row:Option Nat} {v:Value} (h:El w lo row v) (hg:w.grownBy w' row) (hat:row=some g∨g=H) (hH:w.heap.size≤H):El w' lo (some g) v:=by
 obtain⟨a,n,c,f,rfl,hr,hn,hx⟩:=h;rcases hx with h0|⟨b,off,rfl,hlo,hne⟩
 ·exact⟨a,n,c,f,rfl,hr.grown hg (.inl h0),hn,.inl h0⟩
 ·by_cases h0:n=0
  ·exact⟨_,n,c,f,rfl,hr.grown hg (.inl h0),hn,.inl h0⟩
  refine⟨_,n,c,f,rfl,hr.grown hg (.inr fun b' off' e=>by cases e;exact hne),hn,.inr ⟨b,off,rfl,hlo,?_⟩⟩;have hlt:b<w.heap.size:=by
   rcases hr.2.2 with h1|⟨b',off',e,hl,_⟩
   ·exact absurd h1 h0
   ·cases e;exact hl
  rcases hat with e|e
  ·rw[←e];exact hne
  ·intro ee;have:b=g:=by simpa using ee
   omega
set_option linter.unusedSimpArgs false
def LC (w:World) (e:Ending) (w':World):Prop:=∃(sa:Option Addr) (m sc:Nat) (ad:Nat→Option Addr) (ln cp:Nat→Nat) (F:Nat→Nat→T) (k to a b:Int) (pa:Option Addr) (n cap:Nat) (f:Nat→T),
 e= .returned (.tuple #[.slice sa m sc,.agg #[.int .i64 k,.int .i64 to,.int .i64 a,.int .i64 b,.slice pa n cap]])∧kM w' sa m sc ad ln cp F∧Rd w' pa n cap f∧m≤6∧n≤5∧(∀i,i<m→ln i≤5)∧Below w.heap.size w w'
theorem GU {w:World} {lo lo' g c n:Nat} {row:Option Nat} {LS:List Value} (h:w.ownsRow lo 22 1 (.slice (some ⟨g,0,none⟩) n c) n LS) (hE:∀e∈LS,El w lo' row e) (hn:n≤100) (off:Nat) (ho:off≤n):∃ad ln cp f,kM w (some ⟨g,off,none⟩) (n-off) (c-off) ad ln cp f∧∀i,i<n-off→ln i≤5:=by
 have hlen:LS.length=n:=by have:=h.1;omega
 have each:∀i:Nat,∃t:(Option Addr×Nat×Nat)×(Nat→T),i<n-off→LS[off+i]? =some (.slice t.1.1 t.1.2.1 t.1.2.2)∧Rd w t.1.1 t.1.2.1 t.1.2.2 t.2∧t.1.2.1≤5:=fun i=>by
  by_cases hi:i<n-off
  ·have hl:off+i<LS.length:=by omega
   obtain⟨a,m,c',f,e,hr,h5,_⟩:=hE (LS[off+i]) (List.getElem_mem hl);exact⟨((a,m,c'),f),fun _=>⟨by rw[List.getElem?_eq_getElem hl,e],hr,h5⟩⟩
  ·exact⟨((none,0,0),fun _=>⟨0,⟨0,0,0,0⟩⟩),fun q=>absurd q hi⟩
 obtain⟨q,hq⟩:=Classical.axiomOfChoice each;have hc:n≤c:=by
  rcases h.2 with⟨e,_⟩|⟨g',cap',cur,e,_,_,h4,_⟩
  ·cases e
  ·cases e;exact h4
 refine⟨fun i=>(q i).1.1,fun i=>(q i).1.2.1,fun i=>(q i).1.2.2,fun i=>(q i).2,⟨by omega,by omega,.inr ⟨g,off,rfl,(h.lt g rfl).2,fun i hi=>?_⟩,fun i hi=>(hq i hi).2.1⟩,fun i hi=>(hq i hi).2.2⟩;rw[h.cellAt (off+i) (by omega),(hq i hi).1]
theorem lE {w:World} {lo:Nat} {row:Option Nat} {v:Value} (h:El w lo row v) {R o:Nat} (hR:R<lo) (x:Value):El (w.setCell ⟨R,o,none⟩ x) lo row v:=by obtain⟨a,n,c,f,e,hr,h5,hb⟩:=h;exact⟨a,n,c,f,e,hr.setOther (hb.imp id (fun⟨b,off,e1,q,_⟩ b' off' e2=>by rw[e1]at e2;cases e2;omega)),h5,hb⟩
structure Dq (w:World) (B lo:Nat) (u:World) (i q:Nat) (sv:Value) (LS:List Value):Prop where
 row:u.ownsRow lo 22 1 sv i LS
 els:∀e∈LS,El u lo sv.ownBlock e
 rdr:gO u B q
 bel:Below w.heap.size w u
 res:u.heap[w.heap.size]? =some (.cells #[.int .i64 0,.int .i64 0,.int .i64 0,.int .i64 0,.slice none 0 0] 24 (0,0))
 hB:w.heap.size<B
 hlo:B<lo
 hsz:lo≤u.heap.size
theorem Dq.on {w u u':World} {B lo i q q':Nat} {sv:Value} {LS:List Value} (h:Dq w B lo u i q sv LS) (s:aH B u u') (r:gO u' B q'):Dq w B lo u' i q' sv LS where
 row:=cJ h.row s h.hlo
 els:=fun e he=>(h.els e he).beside s h.hlo
 rdr:=r
 bel:=s.below h.bel (Nat.le_of_lt h.hB) h.bel.size
 res:=(s.block _ (Array.getElem?_eq_some_iff.1 h.res).1 (by have:=h.hB;omega)).trans h.res
 hB:=h.hB
 hlo:=h.hlo
 hsz:=gU h.hsz s.size
theorem Dq.app {w u u':World} {B lo i q:Nat} {sv:Value} {LS:List Value} (h:Dq w B lo u i q sv LS) {a:Option Addr} {n c:Nat} {f:Nat→T} (hr:Rd u a n c f) (h5:n≤5) (ha:n=0∨∃g off,a=some ⟨g,off,none⟩∧lo≤g∧some g≠sv.ownBlock) {g1 cap1:Nat} (hown:u'.ownsRow lo 22 1 (.slice (some ⟨g1,0,none⟩) (i+1) cap1) (i+1) (LS++[.slice a n c])) (hg:(u.alloc (.cells #[.slice a n c] 22)).grownBy u' sv.ownBlock) (hat:sv.ownBlock=some g1∨g1=(u.alloc (.cells #[.slice a n c] 22)).heap.size):Dq w B lo u' (i+1) q (.slice (some ⟨g1,0,none⟩) (i+1) cap1) (LS++[.slice a n c]):=by
 have hlt:∀k,sv.ownBlock=some k→lo≤k∧k<u.heap.size:=fun k e=>h.row.lt k e;have hB:=h.hB
 have hlo:=h.hlo;have hRl:=(Array.getElem?_eq_some_iff.1 h.res).1
 have b1:=aG u (.cells #[.slice a n c] 22);have goE:∀e,El u lo sv.ownBlock e→El u' lo (some g1) e:=fun e he=>(he.below b1).grown hg hat (Nat.le_refl _)
 exact{
  row:=hown
  els:=fun e he=>by
   rcases List.mem_append.1 he with q|q
   ·exact goE e (h.els e q)
   ·have:e= .slice a n c:=by simpa using q
    subst this;exact goE _ ⟨a,n,c,f,rfl,hr,h5,ha⟩
  rdr:=(h.rdr.alloc _).grown hg (fun k e=>by have:=hlt k e;omega)
  bel:=(aC h.bel b1).grown hg (by have:=h.bel.size;simp;omega) (fun k e=>by have:=hlt k e;omega)
  res:=(hg.block _ (by simp;omega) (fun e=>by have:=hlt _ e.symm;omega)).trans ((b1.block _ hRl).trans h.res)
  hB:=h.hB
  hlo:=h.hlo
  hsz:=gU h.hsz (gU b1.size hg.size)}
theorem zM (W:World) (p c:Nat) (hm:6≤c):(Instr.slice 38 (.slice (some ⟨p,0,none⟩) 6 c) (some (.int .i64 1)) none none).run Tryz.prog W= .ok (.slice (some ⟨p,1,none⟩) 5 (c-1)) W:=by
 have hz:(Go.sizeOf 22).run Tryz.prog W= .ok 1 W:=by kernel_rfl
 have hc:¬c-1=0:=by omega
 have hc1:¬c=1:=by omega
 rw[run_slice_l W 38 _ 6 c (by kernel_rfl) .i64 1 (by omega) (by omega)];rw[show Tryz.prog.elem 38=22 from by kernel_rfl,hz];simp[sliced,Result.andThen,hc,hc1,Addr.add]
theorem GD:(Tryz.prog.info? 22).map (fun i=>(i.zero,i.size,i.bytes))=some (some (.slice none 0 0),1,24):=by kernel_rfl
theorem GR (a:Option Addr) (n c:Nat):∀u∈[Value.slice a n c],u.oneCell'=true:=fun u hu=>by
 have:u= .slice a n c:=by simpa using hu
 subst this;rfl
theorem JI {w u:World} (h:Below w.heap.size w u) (x0 x1 x2 x3 x4:Value):Below w.heap.size w (((((u.setCell ⟨w.heap.size,0,none⟩ x0).setCell ⟨w.heap.size,1,none⟩ x1).setCell ⟨w.heap.size,2,none⟩ x2).setCell ⟨w.heap.size,3,none⟩ x3).setCell ⟨w.heap.size,4,none⟩ x4):=jM h (Nat.le_refl _) x0 x1 x2 x3 x4
theorem zO {w u:World} {B lo q:Nat} {g c:Nat} {LS:List Value} (h:Dq w B lo u 6 q (.slice (some ⟨g,0,none⟩) 6 c) LS) {k to a b:Int} {pa:Option Addr} {n cap:Nat} {f:Nat→T} (hr:Rd u pa n cap f) (h5:n≤5) (ha:n=0∨∃g off,pa=some ⟨g,off,none⟩∧lo≤g) (off:Nat) (ho:off≤6):LC w (.returned (.tuple #[.slice (some ⟨g,off,none⟩) (6-off) (c-off),.agg #[.int .i64 k,.int .i64 to,.int .i64 a,.int .i64 b,.slice pa n cap]])) (((((u.setCell ⟨w.heap.size,0,none⟩ (.int .i64 k)).setCell ⟨w.heap.size,1,none⟩ (.int .i64 to)).setCell ⟨w.heap.size,2,none⟩ (.int .i64 a)).setCell ⟨w.heap.size,3,none⟩ (.int .i64 b)).setCell ⟨w.heap.size,4,none⟩ (.slice pa n cap)):=by
 have hB:=h.hB;have hlo:=h.hlo
 have hw:w.heap.size<lo:=by omega
 have nn:n=0∨∀b off,pa=some ⟨b,off,none⟩→b≠w.heap.size:=ha.imp id (fun⟨g,off,e,q⟩ b off' e2=>by rw[e]at e2;cases e2;omega);have row:=ownsRow_setCell_below (ownsRow_setCell_below (ownsRow_setCell_below (ownsRow_setCell_below (ownsRow_setCell_below h.row (a:=⟨w.heap.size,0,none⟩) hw (.int .i64 k)) (a:=⟨w.heap.size,1,none⟩) hw (.int .i64 to)) (a:=⟨w.heap.size,2,none⟩) hw (.int .i64 a)) (a:=⟨w.heap.size,3,none⟩) hw (.int .i64 b)) (a:=⟨w.heap.size,4,none⟩) hw (.slice pa n cap)
 obtain⟨ad,ln,cp,F,hrd,hln⟩:=GU row (fun e he=>lE (lE (lE (lE (lE (h.els e he) hw _) hw _) hw _) hw _) hw _) (by omega) off ho;exact⟨_,_,_,ad,ln,cp,F,k,to,a,b,pa,n,cap,f,rfl,hrd,((((hr.setOther nn).setOther nn).setOther nn).setOther nn).setOther nn,by omega,h5,hln,JI h.bel _ _ _ _ _⟩
theorem xM (w:World) (a:Option Addr) (len cap:Nat) (h:FI w a len cap):Calls Tryz.prog 36 #[.slice a len cap] w (LC w):=by
 obtain⟨i0,hi0,hz0,hz1,hz2⟩:=info_parts GD;have bo:=aG w (.cells #[.int .i64 0,.int .i64 0,.int .i64 0,.int .i64 0,.slice none 0 0] 24)
 have HH0:=aA (heap_alloc_new w (.cells #[.int .i64 0,.int .i64 0,.int .i64 0,.int .i64 0,.slice none 0 0] 24));have hO:=AZ (w.alloc (.cells #[.int .i64 0,.int .i64 0,.int .i64 0,.int .i64 0,.slice none 0 0] 24)) a len cap (h.below bo)
 have hl0:w.heap.size<(w.alloc (.cells #[.int .i64 0,.int .i64 0,.int .i64 0,.int .i64 0,.slice none 0 0] 24)).heap.size:=by simp
 have HB0:=aA bo;have HOP:=aA hO
 clear bo h hO;go_enter Tryz.func36,Tryz.ntmps36;go_wp2_with fail;generalize(w.alloc (.cells #[.int .i64 0,.int .i64 0,.int .i64 0,.int .i64 0,.slice none 0 0] 24))=u0 at *;refine HOP.out.mono ?_;rintro e w1 ⟨rfl,hR1,b1⟩;obtain⟨B,hB⟩:∃B,B=u0.heap.size:=⟨_,rfl⟩
 rw[←hB]at hR1;rw[←hB];have hwB:w.heap.size<B:=by omega
 have hBl:B<w1.heap.size:=hR1.lt
 have D0:Hid (Dq w B w1.heap.size (w1.alloc (.cells #[] 22)) 0 0 (.slice (some ⟨w1.heap.size,0,none⟩) 0 0) []):=aA {
  row:=World.ownsRow_lit _ _ _ (Nat.le_refl _) (gC _) rfl
  els:=fun e he=>absurd he List.not_mem_nil
  rdr:=hR1.alloc _
  bel:=aC (aC HB0.out b1) (aG w1 _)
  res:=by rw[Below.heap_alloc _ _ _ (by omega)];exact(b1.block _ hl0).trans HH0.out
  hB:=hwB
  hlo:=hBl
  hsz:=by simp}
 obtain⟨lo,hlo⟩:∃lo,lo=w1.heap.size:=⟨_,rfl⟩
 rw[←hlo]at D0 hBl;clear hR1 b1 HB0 HOP HH0 hl0 hB;go_wp2;rw[←hlo];clear hlo;generalize w1.alloc (.cells #[] 22)=wz at *;go_loopw [5,6] (fun sv iv wr=>∃(i q:Nat) (LS:List Value),i≤6∧iv= .int .i64 (i:Int)∧q≤700*i∧Dq w B lo wr i q sv LS) (fun _ iv _=>6-(intOf iv).toNat);case atStart=>exact⟨0,0,[],gC _,rfl,Nat.le_refl _,D0.out⟩
 case round=>
  obtain⟨i,q,LS,hi,rfl,hq,hD⟩:=hrel;have HD:=aA hD
  clear hD D0;by_cases hlt:i<6
  ·have hil:(i:Int)<6:=by omega
   go_wp2_with fail;refine(fP _ B q 40 HD.out.rdr (by omega) (by omega) (by omega)).mono ?_;rintro e w4 ⟨ya,ym,yc,yf,q4,rfl,hrd,hm5,hblk,hq4,hR4,s4⟩;have hrl:=HD.out.rdr.lt
   have H4:=aA (HD.out.on s4 hR4);have HRD:=aA hrd
   have hmax:i+1≤maxLen:=by unfold maxLen;omega
   have HAW:Hid (ym=0∨∃g off,ya=some ⟨g,off,none⟩∧lo≤g∧some g≠u5.ownBlock):=aA (hblk.imp id (fun⟨g,off,e,q⟩=>⟨g,off,e,gU HD.out.hsz q,fun e9=>by have:=(HD.out.row.lt g e9.symm).2;omega⟩));clear hrd hblk hR4 s4 HD;go_wp2_with (at_builtin;refine wpList_append_lies _ rfl (.tmp 14) (.tmp 17) 38 rfl lo 22 i0 _ 1 24 Tryz.underlying38 hi0 hz0 hz1 hz2 rfl (by omega) _ i LS rfl (H4.out.row.alloc _) ⟨w4.heap.size,0,none⟩ 1 1 [.slice ya ym yc] rfl rfl (World.news_of_block (heap_alloc_new w4 _)) (GR _ _ _) (by omega) hmax (by omega) (by have:=H4.out.hsz;simp;omega) _ rfl ?_;intro g1 cap1 w7 hown2 hgrow2 hat2 hlt2;have H7:=aA (H4.out.app HRD.out hm5 HAW.out hown2 hgrow2 hat2);clear hown2 hgrow2 hat2 hlt2);go_roundw;case rel=>exact⟨i+1,q4,_,by omega,by go_num,by omega,H7.out⟩
   case measure=>simp[intOf];omega
  ·obtain rfl:i=6:=by omega
   obtain⟨g,cap6,rfl,hc6⟩:∃g cap6,u5= .slice (some ⟨g,0,none⟩) 6 cap6∧6≤cap6:=by
    rcases HD.out.row.2 with⟨_,h0⟩|⟨g,cap6,cur,e,_,_,h4,_⟩
    ·omega
    ·exact⟨g,cap6,e,h4⟩
   have hcut:=fun W=>zM W g cap6 hc6;go_wp2_with fail;refine(aK _ B q 12 HD.out.rdr (by omega) (by omega) (by omega)).mono ?_;rintro e w8 ⟨y,rfl,y0,y1,kp⟩;have H8:=aA (HD.out.on kp.beside (kp.rdr HD.out.rdr))
   clear kp HD;by_cases hy0:y=0
   ·subst hy0;go_wp2_with fail;refine(tI _ B _ 12 H8.out.rdr (by omega) (by omega) (by omega)).mono ?_;rintro e w9 ⟨k,to,xa,xb,pa,n,cap',f,q9,rfl,hrd,h5,haw,hq9,hR9,s9⟩;have H9:=aA (H8.out.on s9 hR9)
    have HRD:=aA hrd;have HAW:Hid (n=0∨∃g off,pa=some ⟨g,off,none⟩∧lo≤g):=aA (haw.imp id (fun⟨g,off,e,q⟩=>⟨g,off,e,gU H8.out.hsz q⟩))
    clear hrd haw hR9 s9 H8;obtain⟨⟨d0,d1,d2,d3,d4⟩,dz⟩:=dS H9.out.res;go_wp2;refine bT (v:=.tuple #[.slice (some ⟨g,1,none⟩) 5 (cap6-1),.agg #[.int .i64 k,.int .i64 to,.int .i64 xa,.int .i64 xb,.slice pa n cap']]) (by simp[results,Tryz.results36,go_sem, *]) rfl ?_;exact zO H9.out HRD.out h5 HAW.out 1 (by omega)
   ·have hyb:(y==0)=false:=beq_eq_false_iff_ne.2 hy0;go_wp2_with fail;refine(tI _ B _ 12 H8.out.rdr (by omega) (by omega) (by omega)).mono ?_;rintro e w9 ⟨k,to,xa,xb,pa,n,cap',f,q9,rfl,hrd,h5,haw,hq9,hR9,s9⟩;have H9:=aA (H8.out.on s9 hR9)
    have HRD:=aA hrd;have HAW:Hid (n=0∨∃g off,pa=some ⟨g,off,none⟩∧lo≤g):=aA (haw.imp id (fun⟨g,off,e,q⟩=>⟨g,off,e,gU H8.out.hsz q⟩))
    clear hrd haw hR9 s9 H8;obtain⟨⟨d0,d1,d2,d3,d4⟩,dz⟩:=dS H9.out.res;go_wp2;refine bT (v:=.tuple #[.slice (some ⟨g,0,none⟩) 6 cap6,.agg #[.int .i64 k,.int .i64 to,.int .i64 xa,.int .i64 xb,.slice pa n cap']]) (by simp[results,Tryz.results36,go_sem, *]) rfl ?_;exact zO H9.out HRD.out h5 HAW.out 0 (by omega)
theorem gN.below {B sb:Nat} {x y:Int} {off A C:Nat} {u v:Value} {w w':World} (h:gN B sb x y off A C u v w) (hb:Below w.heap.size w w'):gN B sb x y off A C u v w':=
 ⟨(hb.cell (p:=⟨B,2,none⟩) (uK w _ h.1)).trans h.1,(hb.cell (p:=⟨B,3,none⟩) (uK w _ h.2.1)).trans h.2.1,(hb.cell (p:=⟨sb,off+A,none⟩) (uK w _ h.2.2.1)).trans h.2.2.1,(hb.cell (p:=⟨sb,off+C,none⟩) (uK w _ h.2.2.2)).trans h.2.2.2⟩
theorem wI {o:Option (List T)} {X:List T} (h:eH o=(X,false)):X=[]:=by
 cases o with
 |none=>exact((Prod.mk.inj h).1).symm
 |some K=>exact absurd (Prod.mk.inj h).2 (by decide)
theorem yT {f g:Nat→T} {la lb:Nat} {X:List T} (h:bF f la g lb=(X,false)):X=[]:=by
 unfold bF at h;split at h
 ·exact absurd (Prod.mk.inj h).2 (by decide)
 ·exact((Prod.mk.inj h).1).symm
theorem GW {f g:Nat→T} {la lb:Nat} {X:List T} (h:eC f la g lb=(X,false)):X=[]:=by
 unfold eC at h;split at h
 ·exact absurd (Prod.mk.inj h).2 (by decide)
 ·exact((Prod.mk.inj h).1).symm
theorem GN {f g:Nat→T} {la lb:Nat} {X:List T} (h:aX f la g lb=(X,false)):X=[]:=by
 unfold aX at h;split at h
 ·exact wI h
 ·exact((Prod.mk.inj h).1).symm
theorem xB {f g:Nat→T} {la lb:Nat} {X:List T} (h:bH f la g lb=(X,false)):X=[]:=by
 unfold bH at h;split at h
 ·exact GW h
 ·exact((Prod.mk.inj h).1).symm
theorem IJ {f g:Nat→T} {la lb:Nat} {X:List T} (h:dH f la g lb=(X,false)):X=[]:=by
 unfold dH at h;split at h
 ·split at h
  ·exact absurd (Prod.mk.inj h).2 (by decide)
  ·exact((Prod.mk.inj h).1).symm
 ·exact((Prod.mk.inj h).1).symm
theorem wB {st:List T→T→Option (List T)} {f:Nat→T} {la:Nat} {X:List T} (h:iS st f la=(X,false)):X=[]:=by
 unfold iS at h;split at h
 ·exact wI h
 ·exact((Prod.mk.inj h).1).symm
theorem sU {k to a b:Int} {p:List T} {m:Nat} {ln:Nat→Nat} {F:Nat→Nat→T} {X:List T} (h:aJ k to a b p m ln F=(X,false)):X=[]:=by
 unfold aJ at h;split at h
 ·repeat' split at h
  ·exact absurd (Prod.mk.inj h).2 (by decide)
  ·exact yT h
  ·exact GN h
  ·exact xB h
  ·exact IJ h
  ·exact wB h
  ·exact wB h
  ·exact yT h
 ·exact((Prod.mk.inj h).1).symm
theorem EH {w:World} {a:Option Addr} {n c:Nat} {f:Nat→T} {L:List T} (h:Rd w a n c f) (e:bF f n DZ 0=(L,true)):n=L.length∧RL w a c L:=by
 have hL:L=(List.range' 0 n).map f:=by
  unfold bF at e;split at e
  ·rw[←(Prod.mk.inj e).1,mD f n DZ n 0 (by omega)]
  ·exact absurd (Prod.mk.inj e).2 (by decide)
 have hl:L.length=n:=by rw[hL];simp
 refine⟨hl.symm,?_⟩;unfold RL;rw[hl];refine uE h (fun i hi=>?_);rw[vZ (by omega)];simp[hL]
theorem sE (w:World) (a0:Option Addr) (len0 cap0:Nat) (s0:FI w a0 len0 cap0) (hT:Tb w) (hD:Dw w):Calls Tryz.prog 7 #[.slice a0 len0 cap0] w fun e w'=>e= .returned (.bool true)∧Below w.heap.size w w':=by
 by_cases c0:(1048576:Int)<(len0:Int)
 ·go_enter Tryz.func7,Tryz.ntmps7;go_wp2;go_ret;exact⟨rfl,aD _ _⟩
 have HT:=aA hT;have HD:=aA hD
 clear hT hD;go_enter Tryz.func7,Tryz.ntmps7;go_wp2_with fail;refine(xM w a0 len0 cap0 s0).mono ?_;rintro e wd ⟨sa,m,sc,ad,ln,cp,F,k,to,a,b,pa,n,cap,f,rfl,hS,hR,hm6,hn5,hln,hbd⟩;obtain⟨p,rfl,hpp⟩:=wA hR;have bx:=aG wd (.cells #[.int .i64 k,.int .i64 to,.int .i64 a,.int .i64 b,.slice pa p.length cap] 24)
 have HS:=aA (hS.below bx);have HP:Hid (Rd (wd.alloc (.cells #[.int .i64 k,.int .i64 to,.int .i64 a,.int .i64 b,.slice pa p.length cap] 24)) pa p.length cap (lf p)):=aA (Rd.below hpp bx)
 have Z:=aA (aC hbd bx);have HX:=aA (heap_alloc_new wd (.cells #[.int .i64 k,.int .i64 to,.int .i64 a,.int .i64 b,.slice pa p.length cap] 24))
 obtain⟨L,ok,hL⟩:∃L ok,aJ k to a b p m ln F=(L,ok):=⟨_,_,rfl⟩
 have HL:=aA hL;have lenL:L.length≤400:=by have:=pV k to a b p m ln F;rw[hL]at this;exact this
 have hne:(ok !=ok)=false:=by simp
 clear hS hR hpp hbd bx s0 hL hln;obtain⟨⟨x0,x1,x2,x3,x4⟩,xz⟩:=dS HX.out;go_wp2_with fail;clear x0 x1 x2 x3 x4 xz;generalize wd.alloc (.cells #[.int .i64 k,.int .i64 to,.int .i64 a,.int .i64 b,.slice pa p.length cap] 24)=u0 at *;generalize wd.heap.size=X at *;refine(uT k to a b _ _ _ _ _ _ _ _ _ p _ HS.out HP.out (HT.out.below Z.out) (HD.out.below Z.out)).mono ?_;rw[HL.out];rintro e u1 ⟨ag,cg,rfl,hb,hout⟩;have G1:Hid (RL u1 ag cg L):=aA hout.1
 have HS1:=aA (HS.out.below hb);have HP1:=aA (HP.out.below hb)
 have Z1:=aA (aC Z.out hb);have HX1:=aA ((hb.block _ (Array.getElem?_eq_some_iff.1 HX.out).1).trans HX.out)
 clear hb hout HS HP Z HX;obtain⟨⟨x0,x1,x2,x3,x4⟩,xz⟩:=dS HX1.out;go_wp2_with fail;clear x0 x1 x2 x3 x4 xz;refine(zS k to a b _ _ _ _ _ _ _ _ _ p _ HS1.out HP1.out).mono ?_;rw[HL.out];rintro e u2 ⟨vs,rfl,hb,hown⟩;have HOW:=aA hown
 have G2:=aA (G1.out.below hb);have HS2:=aA (HS1.out.below hb)
 have HP2:=aA (HP1.out.below hb);have Z2:=aA (aC Z1.out hb)
 have HX2:=aA ((hb.block _ (Array.getElem?_eq_some_iff.1 HX1.out).1).trans HX1.out);clear hb hown HS1 HP1 Z1 HX1 G1;obtain⟨asp,csp,rfl,hout⟩:=aM HOW.out (by show L.length*40≤_;omega);have S2:Hid (RL u2 asp csp L):=aA hout.1
 clear hout HOW;go_wp2_with fail;refine(rE G2.out S2.out).mono ?_;rw[gI];rintro e u3 ⟨rfl,hb⟩;have G3:=aA (G2.out.below hb)
 have HS3:=aA (HS2.out.below hb);have HP3:=aA (HP2.out.below hb)
 have Z3:=aA (aC Z2.out hb);have HX3:=aA ((hb.block _ (Array.getElem?_eq_some_iff.1 HX2.out).1).trans HX2.out)
 clear hb G2 S2 HS2 HP2 Z2 HX2;cases ok
 ·have hl0:L=[]:=sU HL.out;subst hl0;go_wp2_with fail;refine(GB _).mono ?_;rintro e u4 ⟨rfl,hb⟩;have Z4:=aA (aC Z3.out hb)
  clear hb;go_wp2;go_ret;exact⟨rfl,Z4.out⟩
 obtain⟨rfl,hl⟩:=zU HL.out;have HOK:=aA (zV HL.out)
 obtain⟨⟨k1,k8⟩,⟨t0,t5⟩,⟨a1,a5⟩,⟨b1,b5⟩,hpk⟩:=bA hl;have HEQ:=aA ((zT (ln:=ln) (F:=F) ⟨rfl,hl⟩).symm.trans HL.out)
 obtain⟨A,rfl⟩:∃A:Nat,a=(A:Int):=⟨a.toNat,by omega⟩
 obtain⟨C,rfl⟩:∃C:Nat,b=(C:Int):=⟨b.toNat,by omega⟩
 obtain⟨D,rfl⟩:∃D:Nat,to=(D:Int):=⟨to.toNat,by omega⟩
 simp only[Int.toNat_natCast]at HEQ;have hA6:A<6:=by omega
 have hC6:C<6:=by omega
 have hD6:D<6:=by omega
 have hAI:(A:Int)<6:=by omega
 have hCI:(C:Int)<6:=by omega
 have hDI:(D:Int)<6:=by omega
 obtain⟨sb,off,rfl,hlt,hc⟩:=HS3.out.2.2.1.resolve_left (by omega);have rA:=hc A hA6
 have rC:=hc C hC6;have rD:=hc D hD6
 have kk:k=1∨k=2∨k=3∨k=4∨k=5∨k=6∨k=7∨k=8:=by omega
 clear hl HL t0 t5 a1 a5 b1 b5 k1 k8 hc hpk;obtain⟨⟨x0,x1,x2,x3,x4⟩,xz⟩:=dS HX3.out;rcases kk with rfl|rfl|rfl|rfl|rfl|rfl|rfl|rfl
 ·skip
  have e:p=L:=(Prod.mk.inj HEQ.out).1;subst e;have G9:=G3
  have Z9:=Z3;have X9:Hid (RL u3 pa cap p):=HP3
  clear HEQ;go_wp2_with fail;refine(rE X9.out G9.out).mono ?_;rw[gI];rintro e u8 ⟨rfl,hb⟩;have GA:=aA (G9.out.below hb)
  have ZA:=aA (aC Z9.out hb);clear hb;go_wp2_with fail;refine(lR GA.out).mono ?_;rw[HOK.out];rintro e u9 ⟨rfl,hb⟩;have ZB:=aA (aC ZA.out hb)
  clear hb;go_wp2;go_ret;exact⟨rfl,ZB.out⟩
 ·skip
  have HF:Hid (gN X sb (A:Int) (C:Int) off A C (.slice (ad A) (ln A) (cp A)) (.slice (ad C) (ln C) (cp C)) u3.drew):=aA ⟨x2,x3,rA,rC⟩;have HSd:=aA (HS3.out.below (aD _ _).drew)
  have HCA:=aA (nM _ _ _ _ _ _ _ _ _ (HSd.out.2.2.2 A hA6) (HSd.out.2.2.2 C hC6));rw[show bF (F A) (ln A) (F C) (ln C)=(L,true)from HEQ.out]at HCA;go_wp2_with fail;clear x0 x1 x2 x3 x4 xz rA rC rD
  go_region_held3 (fun u=>u.cell? ⟨X,2,none⟩=some (.int .i64 (A:Int))∧u.cell? ⟨X,3,none⟩=some (.int .i64 (C:Int))∧u.cell? ⟨sb,off+A,none⟩=some (.slice (ad A) (ln A) (cp A))∧u.cell? ⟨sb,off+C,none⟩=some (.slice (ad C) (ln C) (cp C))) (first|with_reducible exact HF2.out|with_reducible exact HF.out) ((go_at_call 38;refine HCA.out.mono ?_;rintro e u5 ⟨xa,xc,rfl,hb5,ho5⟩;have HF2:=aA (HF.out.below hb5);have HB5:=aA hb5;have X9:Hid (RL u5 xa xc L):=aA ho5.1;clear hb5 ho5))
  have G9:=aA ((G3.out.below (aD _ _).drew).below HB5.out);have Z9:=aA (aC Z3.out.drew HB5.out)
  clear HB5 HF HF2 HCA HEQ;go_wp2_with fail;refine(rE X9.out G9.out).mono ?_;rw[gI];rintro e u8 ⟨rfl,hb⟩;have GA:=aA (G9.out.below hb)
  have ZA:=aA (aC Z9.out hb);clear hb;go_wp2_with fail;refine(lR GA.out).mono ?_;rw[HOK.out];rintro e u9 ⟨rfl,hb⟩;have ZB:=aA (aC ZA.out hb)
  clear hb;go_wp2;go_ret;exact⟨rfl,ZB.out⟩
 ·skip
  have HF:Hid (gN X sb (A:Int) (C:Int) off A C (.slice (ad A) (ln A) (cp A)) (.slice (ad C) (ln C) (cp C)) u3.drew):=aA ⟨x2,x3,rA,rC⟩;have HSd:=aA (HS3.out.below (aD _ _).drew)
  have HCA:=aA (nP _ _ _ _ _ _ _ _ _ (HSd.out.2.2.2 A hA6) (HSd.out.2.2.2 C hC6));rw[show aX (F A) (ln A) (F C) (ln C)=(L,true)from HEQ.out]at HCA;go_wp2_with fail;clear x0 x1 x2 x3 x4 xz rA rC rD
  go_region_held3 (fun u=>u.cell? ⟨X,2,none⟩=some (.int .i64 (A:Int))∧u.cell? ⟨X,3,none⟩=some (.int .i64 (C:Int))∧u.cell? ⟨sb,off+A,none⟩=some (.slice (ad A) (ln A) (cp A))∧u.cell? ⟨sb,off+C,none⟩=some (.slice (ad C) (ln C) (cp C))) (first|with_reducible exact HF2.out|with_reducible exact HF.out) ((go_at_call 39;refine HCA.out.mono ?_;rintro e u5 ⟨xa,xc,rfl,hb5,ho5⟩;have HF2:=aA (HF.out.below hb5);have HB5:=aA hb5;have X9:Hid (RL u5 xa xc L):=aA ho5.1;clear hb5 ho5))
  have G9:=aA ((G3.out.below (aD _ _).drew).below HB5.out);have Z9:=aA (aC Z3.out.drew HB5.out)
  clear HB5 HF HF2 HCA HEQ;go_wp2_with fail;refine(rE X9.out G9.out).mono ?_;rw[gI];rintro e u8 ⟨rfl,hb⟩;have GA:=aA (G9.out.below hb)
  have ZA:=aA (aC Z9.out hb);clear hb;go_wp2_with fail;refine(lR GA.out).mono ?_;rw[HOK.out];rintro e u9 ⟨rfl,hb⟩;have ZB:=aA (aC ZA.out hb)
  clear hb;go_wp2;go_ret;exact⟨rfl,ZB.out⟩
 ·skip
  have HF:Hid (gN X sb (A:Int) (C:Int) off A C (.slice (ad A) (ln A) (cp A)) (.slice (ad C) (ln C) (cp C)) u3.drew):=aA ⟨x2,x3,rA,rC⟩;have HSd:=aA (HS3.out.below (aD _ _).drew)
  have HCA:=aA (qT _ _ _ _ _ _ _ _ _ (HSd.out.2.2.2 A hA6) (HSd.out.2.2.2 C hC6));rw[show bH (F A) (ln A) (F C) (ln C)=(L,true)from HEQ.out]at HCA;go_wp2_with fail;clear x0 x1 x2 x3 x4 xz rA rC rD
  go_region_held3 (fun u=>u.cell? ⟨X,2,none⟩=some (.int .i64 (A:Int))∧u.cell? ⟨X,3,none⟩=some (.int .i64 (C:Int))∧u.cell? ⟨sb,off+A,none⟩=some (.slice (ad A) (ln A) (cp A))∧u.cell? ⟨sb,off+C,none⟩=some (.slice (ad C) (ln C) (cp C))) (first|with_reducible exact HF2.out|with_reducible exact HF.out) ((go_at_call 40;refine HCA.out.mono ?_;rintro e u5 ⟨xa,xc,rfl,hb5,ho5⟩;have HF2:=aA (HF.out.below hb5);have HB5:=aA hb5;have X9:Hid (RL u5 xa xc L):=aA ho5.1;clear hb5 ho5))
  have G9:=aA ((G3.out.below (aD _ _).drew).below HB5.out);have Z9:=aA (aC Z3.out.drew HB5.out)
  clear HB5 HF HF2 HCA HEQ;go_wp2_with fail;refine(rE X9.out G9.out).mono ?_;rw[gI];rintro e u8 ⟨rfl,hb⟩;have GA:=aA (G9.out.below hb)
  have ZA:=aA (aC Z9.out hb);clear hb;go_wp2_with fail;refine(lR GA.out).mono ?_;rw[HOK.out];rintro e u9 ⟨rfl,hb⟩;have ZB:=aA (aC ZA.out hb)
  clear hb;go_wp2;go_ret;exact⟨rfl,ZB.out⟩
 ·skip
  have HF:Hid (gN X sb (A:Int) (C:Int) off A C (.slice (ad A) (ln A) (cp A)) (.slice (ad C) (ln C) (cp C)) u3.drew):=aA ⟨x2,x3,rA,rC⟩;have HSd:=aA (HS3.out.below (aD _ _).drew)
  have HCA:=aA (CF _ _ _ _ _ _ _ _ _ (HSd.out.2.2.2 A hA6) (HSd.out.2.2.2 C hC6));rw[show dH (F A) (ln A) (F C) (ln C)=(L,true)from HEQ.out]at HCA;go_wp2_with fail;clear x0 x1 x2 x3 x4 xz rA rC rD
  go_region_held3 (fun u=>u.cell? ⟨X,2,none⟩=some (.int .i64 (A:Int))∧u.cell? ⟨X,3,none⟩=some (.int .i64 (C:Int))∧u.cell? ⟨sb,off+A,none⟩=some (.slice (ad A) (ln A) (cp A))∧u.cell? ⟨sb,off+C,none⟩=some (.slice (ad C) (ln C) (cp C))) (first|with_reducible exact HF2.out|with_reducible exact HF.out) ((go_at_call 41;refine HCA.out.mono ?_;rintro e u5 ⟨xa,xc,rfl,hb5,ho5⟩;have HF2:=aA (HF.out.below hb5);have HB5:=aA hb5;have X9:Hid (RL u5 xa xc L):=aA ho5.1;clear hb5 ho5))
  have G9:=aA ((G3.out.below (aD _ _).drew).below HB5.out);have Z9:=aA (aC Z3.out.drew HB5.out)
  clear HB5 HF HF2 HCA HEQ;go_wp2_with fail;refine(rE X9.out G9.out).mono ?_;rw[gI];rintro e u8 ⟨rfl,hb⟩;have GA:=aA (G9.out.below hb)
  have ZA:=aA (aC Z9.out hb);clear hb;go_wp2_with fail;refine(lR GA.out).mono ?_;rw[HOK.out];rintro e u9 ⟨rfl,hb⟩;have ZB:=aA (aC ZA.out hb)
  clear hb;go_wp2;go_ret;exact⟨rfl,ZB.out⟩
 ·skip
  have HCA:=aA (qH _ _ _ _ _ (HS3.out.2.2.2 A hA6));rw[show bX (F A) (ln A)=(L,true)from HEQ.out]at HCA;go_wp2_with fail;clear x0 x1 x2 x3 x4 xz rA rC rD;refine HCA.out.mono ?_;rintro e u5 ⟨xa,xc,rfl,hb5,ho5⟩;have X9:Hid (RL u5 xa xc L):=aA ho5.1
  have G9:=aA (G3.out.below hb5);have Z9:=aA (aC Z3.out hb5)
  clear hb5 ho5 HCA HEQ;go_wp2_with fail;refine(rE X9.out G9.out).mono ?_;rw[gI];rintro e u8 ⟨rfl,hb⟩;have GA:=aA (G9.out.below hb)
  have ZA:=aA (aC Z9.out hb);clear hb;go_wp2_with fail;refine(lR GA.out).mono ?_;rw[HOK.out];rintro e u9 ⟨rfl,hb⟩;have ZB:=aA (aC ZA.out hb)
  clear hb;go_wp2;go_ret;exact⟨rfl,ZB.out⟩
 ·skip
  have HCA:=aA (tJ _ _ _ _ _ (HS3.out.2.2.2 A hA6));rw[show cH (F A) (ln A)=(L,true)from HEQ.out]at HCA;go_wp2_with fail;clear x0 x1 x2 x3 x4 xz rA rC rD;refine HCA.out.mono ?_;rintro e u5 ⟨xa,xc,rfl,hb5,ho5⟩;have X9:Hid (RL u5 xa xc L):=aA ho5.1
  have G9:=aA (G3.out.below hb5);have Z9:=aA (aC Z3.out hb5)
  clear hb5 ho5 HCA HEQ;go_wp2_with fail;refine(rE X9.out G9.out).mono ?_;rw[gI];rintro e u8 ⟨rfl,hb⟩;have GA:=aA (G9.out.below hb)
  have ZA:=aA (aC Z9.out hb);clear hb;go_wp2_with fail;refine(lR GA.out).mono ?_;rw[HOK.out];rintro e u9 ⟨rfl,hb⟩;have ZB:=aA (aC ZA.out hb)
  clear hb;go_wp2;go_ret;exact⟨rfl,ZB.out⟩
 ·skip
  obtain⟨hlen,hrl⟩:=EH (HS3.out.2.2.2 D hD6) HEQ.out;rw[hlen]at rD;have X9:Hid (RL u3 (ad D) (cp D) L):=aA hrl
  have G9:=G3;have Z9:=Z3
  clear hlen hrl HEQ;go_wp2_with fail;refine(rE X9.out G9.out).mono ?_;rw[gI];rintro e u8 ⟨rfl,hb⟩;have GA:=aA (G9.out.below hb)
  have ZA:=aA (aC Z9.out hb);clear hb;go_wp2_with fail;refine(lR GA.out).mono ?_;rw[HOK.out];rintro e u9 ⟨rfl,hb⟩;have ZB:=aA (aC ZA.out hb)
  clear hb;go_wp2;go_ret;exact⟨rfl,ZB.out⟩
end Go.Proofs.YtoglomfejgpoeaaGreatDoor
