/-
  Monomials that come in, are copied and are held against each other.
-/
import Derived.Test.YtoglomfejgpoeaaGreatDoorMab
import Derived.Lib.SmallJoins
import Derived.Deep.AppendLies
set_option maxHeartbeats 8000000
set_option maxRecDepth 100000
namespace Go.Proofs.YtoglomfejgpoeaaGreatDoor
open Go.RowKit Go.Deep Go.Joins
set_option linter.unusedVariables false
def M.eqB (a b:M):Bool:=decide (a.x=b.x∧a.y=b.y∧a.d=b.d∧a.e=b.e)
theorem M.eqB_iff {a b:M}:a.eqB b=true↔a=b:=by cases a;cases b;simp[M.eqB]
end Go.Proofs.YtoglomfejgpoeaaGreatDoor
namespace Go.Proofs.YtoglomfejgpoeaaGreatDoor
open Go.RowKit
set_option linter.unusedVariables false
theorem jM {n B o0 o1 o2 o3 o4:Nat} {a w:World} (h:Below n a w) (hB:n≤B) (u0 u1 u2 u3 u4:Value):Below n a (((((w.setCell ⟨B,o0,none⟩ u0).setCell ⟨B,o1,none⟩ u1).setCell ⟨B,o2,none⟩ u2).setCell ⟨B,o3,none⟩ u3).setCell ⟨B,o4,none⟩ u4):=
 ((((h.setCell hB u0).setCell hB u1).setCell hB u2).setCell hB u3).setCell hB u4
def cf (f:Nat→T) (j:Nat):Value:=if j%5=0 then .int .i64 (f (j / 5)).c else if j%5=1 then .int .i64 (f (j / 5)).m.x else if j%5=2 then .int .i64 (f (j / 5)).m.y else if j%5=3 then .int .i64 (f (j / 5)).m.d else .int .i64 (f (j / 5)).m.e
theorem EU (f:Nat→T) (i:Nat):cf f (i*5)= .int .i64 (f i).c:=by unfold cf;rw[if_pos (by omega),show i*5 / 5=i by omega]
theorem CK (f:Nat→T) (i:Nat):cf f (i*5+1)= .int .i64 (f i).m.x:=by unfold cf;rw[if_neg (by omega),if_pos (by omega),show(i*5+1) / 5=i by omega]
theorem CL (f:Nat→T) (i:Nat):cf f (i*5+2)= .int .i64 (f i).m.y:=by unfold cf;rw[if_neg (by omega),if_neg (by omega),if_pos (by omega),show(i*5+2) / 5=i by omega]
theorem FQ (f:Nat→T) (i:Nat):cf f (i*5+3)= .int .i64 (f i).m.d:=by unfold cf;rw[if_neg (by omega),if_neg (by omega),if_neg (by omega),if_pos (by omega),show(i*5+3) / 5=i by omega]
theorem FR (f:Nat→T) (i:Nat):cf f (i*5+4)= .int .i64 (f i).m.e:=by unfold cf;rw[if_neg (by omega),if_neg (by omega),if_neg (by omega),if_neg (by omega),show(i*5+4) / 5=i by omega]
def Own (w:World) (g n:Nat) (f:Nat→T):Prop:=w.rowIs g 80 (n*5) (cf f)
theorem Own.cells {w:World} {g n:Nat} {f:Nat→T} (h:Own w g n f) {i:Nat} (hi:i<n):eK w g (0+i*5) (f i):=by rw[Nat.zero_add];exact⟨by rw[h.cell (by omega),EU],by rw[h.cell (by omega),CK],by rw[h.cell (by omega),CL],by rw[h.cell (by omega),FQ],by rw[h.cell (by omega),FR]⟩
theorem Own.rd {w:World} {g n:Nat} {f:Nat→T} (h:Own w g n f) (hn:n*40≤140737488351232):Rd w (some ⟨g,0,none⟩) n n f:=
 ⟨Nat.le_refl _,hn,.inr ⟨g,0,rfl,h.lt,fun i hi=>h.cells hi⟩⟩
theorem Own.below {w w':World} {g n B:Nat} {f:Nat→T} (h:Own w g n f) (hb:Below B w w') (hg:g<B):Own w' g n f:=h.of_block (hb.block g hg)
theorem tH:(Tryz.prog.info? 80).map (fun i=>(i.zero,i.size,i.bytes))=some (some (.agg #[.int .i64 0,.int .i64 0,.int .i64 0,.int .i64 0,.int .i64 0]),5,40):=by kernel_rfl
def T.eqB (a b:T):Bool:=decide (a.c=b.c)&&a.m.eqB b.m
theorem T.eqB_iff {a b:T}:a.eqB b=true↔a=b:=by cases a;cases b;simp[T.eqB,M.eqB_iff]
def bL (n:Nat) (f:Nat→T) (n':Nat) (f':Nat→T):Bool:=decide (n=n'∧∀i,i<n→(f i).eqB (f' i)=true)
def Wr (w:World) (a:Option Addr) (n:Nat) (f:Nat→T):Prop:=
 n=0∨∃g off N F,a=some ⟨g,off,none⟩∧w.rowIs g 80 N F∧off+n*5≤N∧∀j,j<n*5→F (off+j)=cf f j
def mk (k:Int) (i:Nat):T:=⟨k+5*i,⟨k+5*i+1,k+5*i+2,k+5*i+3,k+5*i+4⟩⟩
theorem kQ (w:World) (r:Option Nat):w.grownBy w r:=⟨rfl,rfl,rfl,Nat.le_refl _,fun _ _ _=>rfl⟩
def T.cells (t:T):List Value:=[.int .i64 t.c,.int .i64 t.m.x,.int .i64 t.m.y,.int .i64 t.m.d,.int .i64 t.m.e]
def aF:List T→List Value
 |[]=>[]
 |t::r=>t.cells++aF r
theorem bV (a b:List T):aF (a++b)=aF a++aF b:=by
 induction a with
 |nil=>rfl
 |cons t r ih=>simp[aF,ih,List.append_assoc]
theorem aZ (a:List T):(aF a).length=a.length*5:=by
 induction a with
 |nil=>rfl
 |cons t r ih=>simp[aF,T.cells,ih];omega
theorem cU (t:T):aF [t]=[.int .i64 t.c,.int .i64 t.m.x,.int .i64 t.m.y,.int .i64 t.m.d,.int .i64 t.m.e]:=by simp[aF,T.cells]
def dZ (f:Nat→T) (la:Nat) (g:Nat→T) (lb:Nat):Nat→Nat→Nat→List T
 |0,_,_=>[]
 |u+1,i,k=>
  if i<la∧k<lb then
   if 0<M.ord 1 (f i).m (g k).m then f i::dZ f la g lb u (i+1) k
   else if M.ord 1 (f i).m (g k).m<0 then g k::dZ f la g lb u i (k+1)
   else if((f i).c+(g k).c)%101≠0 then⟨((f i).c+(g k).c)%101,(f i).m⟩::dZ f la g lb u (i+1) (k+1)
   else dZ f la g lb u (i+1) (k+1)
  else if i<la then f i::dZ f la g lb u (i+1) k
  else if k<lb then g k::dZ f la g lb u i (k+1)
  else[]
theorem gJ (f:Nat→T) (la:Nat) (g:Nat→T) (lb:Nat):∀(u v i k:Nat),la-i+(lb-k)≤u→la-i+(lb-k)≤v→dZ f la g lb u i k=dZ f la g lb v i k
 |0,0,_,_,_,_=>rfl
 |0,v+1,i,k,h,_=>by simp only[dZ];rw[if_neg (by omega),if_neg (by omega),if_neg (by omega)]
 |u+1,0,i,k,_,h=>by simp only[dZ];rw[if_neg (by omega),if_neg (by omega),if_neg (by omega)]
 |u+1,v+1,i,k,h,h'=>by
  simp only[dZ];by_cases h1:i<la∧k<lb
  ·rw[if_pos h1,if_pos h1,gJ f la g lb u v (i+1) k (by omega) (by omega),gJ f la g lb u v i (k+1) (by omega) (by omega),gJ f la g lb u v (i+1) (k+1) (by omega) (by omega)]
  ·rw[if_neg h1,if_neg h1];by_cases h2:i<la
   ·rw[if_pos h2,if_pos h2,gJ f la g lb u v (i+1) k (by omega) (by omega)]
   ·rw[if_neg h2,if_neg h2];by_cases h3:k<lb
    ·rw[if_pos h3,if_pos h3,gJ f la g lb u v i (k+1) (by omega) (by omega)]
    ·rw[if_neg h3,if_neg h3]
def cT (f:Nat→T) (la:Nat) (g:Nat→T) (lb:Nat) (i k:Nat):List T:=dZ f la g lb (la-i+(lb-k)) i k
theorem qW {f:Nat→T} {la:Nat} {g:Nat→T} {lb i k:Nat} (hi:i<la) (h:¬k<lb∨0<M.ord 1 (f i).m (g k).m):cT f la g lb i k=f i::cT f la g lb (i+1) k:=by
 unfold cT;rw[show la-i+(lb-k)=(la-(i+1)+(lb-k))+1 by omega];simp only[dZ];by_cases hk:k<lb
 ·rw[if_pos ⟨hi,hk⟩,if_pos (h.resolve_left (fun h=>h hk))]
 ·rw[if_neg (fun h=>hk h.2),if_pos hi]
theorem vN {f:Nat→T} {la:Nat} {g:Nat→T} {lb i k:Nat} (hk:k<lb) (h:¬i<la∨M.ord 1 (f i).m (g k).m<0):cT f la g lb i k=g k::cT f la g lb i (k+1):=by
 unfold cT;rw[show la-i+(lb-k)=(la-i+(lb-(k+1)))+1 by omega];simp only[dZ];by_cases hi:i<la
 ·have h':=h.resolve_left (fun h=>h hi);rw[if_pos ⟨hi,hk⟩,if_neg (by omega),if_pos h']
 ·rw[if_neg (fun h=>hi h.1),if_neg hi,if_pos hk]
theorem vM {f:Nat→T} {la:Nat} {g:Nat→T} {lb i k:Nat} (hi:i<la) (hk:k<lb) (h:M.ord 1 (f i).m (g k).m=0):cT f la g lb i k=(if((f i).c+(g k).c)%101≠0 then[⟨((f i).c+(g k).c)%101,(f i).m⟩]else[])++cT f la g lb (i+1) (k+1):=by
 unfold cT;rw[show la-i+(lb-k)=(la-i+(lb-k)-1)+1 by omega];simp only[dZ];rw[if_pos ⟨hi,hk⟩,if_neg (by omega),if_neg (by omega),gJ f la g lb (la-i+(lb-k)-1) (la-(i+1)+(lb-(k+1))) (i+1) (k+1) (by omega) (by omega)];by_cases hc:((f i).c+(g k).c)%101≠0
 ·rw[if_pos hc,if_pos hc];rfl
 ·rw[if_neg hc,if_neg hc];rfl
theorem sM {f:Nat→T} {la:Nat} {g:Nat→T} {lb i k:Nat} (hi:¬i<la) (hk:¬k<lb):cT f la g lb i k=[]:=by unfold cT;rw[show la-i+(lb-k)=0 by omega];rfl
theorem kX (f:Nat→T) (la:Nat) (g:Nat→T) (lb:Nat):∀(u i k:Nat),(dZ f la g lb u i k).length≤u
 |0,_,_=>by simp[dZ]
 |u+1,i,k=>by
  have a1:=kX f la g lb u (i+1) k;have a2:=kX f la g lb u i (k+1)
  have a3:=kX f la g lb u (i+1) (k+1);simp only[dZ]
  repeat' split
  all_goals simp
  all_goals omega
theorem jK (f:Nat→T) (la:Nat) (g:Nat→T) (lb i k:Nat):(cT f la g lb i k).length≤la-i+(lb-k):=kX _ _ _ _ _ _ _
theorem dF (t:T):∀u∈aF [t],u.oneCell'=true:=by rw[cU];intro u hu;simp only[List.mem_cons,List.not_mem_nil,or_false]at hu;rcases hu with rfl|rfl|rfl|rfl|rfl<;>rfl
theorem cV {w w':World} (h:Below w.heap.size w w'):w.grownBy w' none:=⟨h.os,h.tape,h.output,h.size,fun k hk _=>h.block k hk⟩
theorem aT {w w':World} {base:Nat} {e:TypeId} {size:Nat} {v:Value} {n:Nat} {xs:List Value} (h:w.ownsRow base e size v n xs) (hb:Below w.heap.size w w'):w'.ownsRow base e size v n xs:=by
 refine h.kept (cV hb) ?_;cases hv:v.ownBlock with
 |none=>exact .inl rfl
 |some k=>exact .inr (by simp)
theorem mH (w:World) (a b:Option Addr) (la ca lb cb:Nat) (f g:Nat→T) (ha:Rd w a la ca f) (hb:Rd w b lb cb g) (hl:la+lb≤1000000) (hcf:∀i,i<la→0≤(f i).c∧(f i).c≤100) (hcg:∀i,i<lb→0≤(g i).c∧(g i).c≤100):Calls Tryz.prog 97 #[.slice a la ca,.slice b lb cb] w fun r w'=>∃v,r= .returned v∧Below w.heap.size w w'∧w'.ownsRow w.heap.size 80 5 v (cT f la g lb 0 0).length (aF (cT f la g lb 0 0)):=by
 obtain⟨i0,hi0,hz0,hz1,hz2⟩:=info_parts tH;obtain⟨a1,a2,a3⟩:=ha;obtain⟨b1,b2,b3⟩:=hb;have hla:(la:Int)≤1000000:=by omega
 have hlb:(lb:Int)≤1000000:=by omega
 go_enter Tryz.func97,Tryz.ntmps97;go_wp2;go_loopw [5,6,7] (fun v ii kk wr=>∃(i k:Nat) (out:List T),i≤la∧k≤lb∧ii= .int .i64 i∧kk= .int .i64 k∧Below w.heap.size w wr∧wr.ownsRow w.heap.size 80 5 v out.length (aF out)∧out.length≤i+k∧Hid (out++cT f la g lb i k=cT f la g lb 0 0)) (fun _ ii kk _=>(la-(intOf ii).toNat)+(lb-(intOf kk).toNat));case atStart=>exact⟨0,0,[],gC _,gC _,rfl,rfl,(aD _ _).alloc (Nat.le_refl _) _,World.ownsRow_lit _ _ _ (Nat.le_refl _) (gC _) rfl,gC _,rfl⟩
 case round=>
  obtain⟨i,k,out,hi,hk,rfl,rfl,hB,hown,hol,HL⟩:=hrel;by_cases hia:i<la
  ·rcases a3 with h0|⟨ba,oa,rfl,hal,hac⟩
   ·omega
   have hin:(i:Int)<(la:Int):=by omega
   by_cases hkb:k<lb
   ·rcases b3 with h0|⟨bb,ob,rfl,hbl,hbc⟩
    ·omega
    have hkn:(k:Int)<(lb:Int):=by omega
    have hba:ba<wr.heap.size:=dR hal hB.size;have hbb:bb<wr.heap.size:=dR hbl hB.size
    have ne:=cO.there wr;have hca:=(hac i hia).below hB hal
    have hcb:=(hbc k hkb).below hB hbl;obtain⟨CK,CL⟩:=hcf i hia;obtain⟨cg1,cg2⟩:=hcg k hkb;have ke:((k:Int)==(lb:Int))=false:=by simp;omega
    have ie:((i:Int)==(la:Int))=false:=by simp;omega
    have s0:∀u:cO wr,u.1.cell? ⟨ba,oa+i*5,none⟩=some (.int .i64 (f i).c):=fun u=>(u.cell hba).trans hca.1;have s1:∀u:cO wr,u.1.cell? ⟨ba,oa+i*5+1,none⟩=some (.int .i64 (f i).m.x):=fun u=>(u.cell hba).trans hca.2.1
    have s2:∀u:cO wr,u.1.cell? ⟨ba,oa+i*5+2,none⟩=some (.int .i64 (f i).m.y):=fun u=>(u.cell hba).trans hca.2.2.1;have s3:∀u:cO wr,u.1.cell? ⟨ba,oa+i*5+3,none⟩=some (.int .i64 (f i).m.d):=fun u=>(u.cell hba).trans hca.2.2.2.1
    have s4:∀u:cO wr,u.1.cell? ⟨ba,oa+i*5+4,none⟩=some (.int .i64 (f i).m.e):=fun u=>(u.cell hba).trans hca.2.2.2.2;have t0:∀u:cO wr,u.1.cell? ⟨bb,ob+k*5,none⟩=some (.int .i64 (g k).c):=fun u=>(u.cell hbb).trans hcb.1
    have t1:∀u:cO wr,u.1.cell? ⟨bb,ob+k*5+1,none⟩=some (.int .i64 (g k).m.x):=fun u=>(u.cell hbb).trans hcb.2.1;have t2:∀u:cO wr,u.1.cell? ⟨bb,ob+k*5+2,none⟩=some (.int .i64 (g k).m.y):=fun u=>(u.cell hbb).trans hcb.2.2.1
    have t3:∀u:cO wr,u.1.cell? ⟨bb,ob+k*5+3,none⟩=some (.int .i64 (g k).m.d):=fun u=>(u.cell hbb).trans hcb.2.2.2.1;have t4:∀u:cO wr,u.1.cell? ⟨bb,ob+k*5+4,none⟩=some (.int .i64 (g k).m.e):=fun u=>(u.cell hbb).trans hcb.2.2.2.2
    have HOW:=aA hown;have HCA:=aA hca
    have HCB:=aA hcb;clear hac hbc hcf hcg hown hca hcb;go_wp2_with fail;refine aS (by kernel_rfl) (by kernel_rfl) ?_;repeat(go_big_quiet_step (first|(go_at_call 116;exact bK (BC _ _ _ _ _ _ _ _ _))))
    refine wpQuiet_nil ?_;rintro wu ⟨x,hx⟩;have hu:Below wr.heap.size wr wu:=by rw[hx];exact x.2
    clear hx x;have hBu:=hB.trans (hu.mono hB.size)
    have hownu:=aT HOW.out hu;obtain⟨x0,x1,x2,x3,x4⟩:=HCA.out.below hu hba;obtain⟨y0,y1,y2,y3,y4⟩:=HCB.out.below hu hbb;clear s0 s1 s2 s3 s4 t0 t1 t2 t3 t4 HOW HCA HCB hB hu;by_cases hq:0<M.ord 1 (f i).m (g k).m
    ·have dq:decide (0<M.ord 1 ⟨(f i).m.x,(f i).m.y,(f i).m.d,(f i).m.e⟩ ⟨(g k).m.x,(g k).m.y,(g k).m.d,(g k).m.e⟩)=true:=decide_eq_true hq;go_wp2_with (at_builtin;refine wpList_append_lies _ rfl (.tmp 85) (.tmp 90) 22 rfl w.heap.size 80 i0 _ 5 40 Tryz.underlying22 hi0 hz0 hz1 hz2 rfl (by omega) _ out.length (aF out) rfl (hownu.alloc _) ⟨wu.heap.size,0,none⟩ 1 1 (aF [f i]) rfl (by rw[aZ];rfl) (by rw[cU];exact World.news_of_block (heap_alloc_new wu _)) (dF _) (by omega) (by unfold maxLen;omega) (by omega) (by have:=hBu.size;simp;omega) _ rfl ?_;intro g0 cap0 w1 hown1 hgrow hat hlt1;have HB:=aA ((hBu.alloc hBu.size _).grown hgrow (gU hBu.size (by simp)) (fun k hk=>(hownu.lt k hk).1));have HO:=aA hown1;clear hown1 hgrow hat hlt1 hownu);go_roundw
     case rel=>
      refine⟨i+1,k,out++[f i],by omega,by omega,by go_num,by go_num,HB.out,?_,by simp;omega,?_⟩
      ·rw[bV,List.length_append];exact HO.out
      ·show out++[f i]++cT f la g lb (i+1) (k)=_;rw[←HL.out,qW hia (.inr hq),List.append_assoc];rfl
     case measure=>simp[intOf];omega
    ·have dq:decide (0<M.ord 1 ⟨(f i).m.x,(f i).m.y,(f i).m.d,(f i).m.e⟩ ⟨(g k).m.x,(g k).m.y,(g k).m.d,(g k).m.e⟩)=false:=decide_eq_false hq;by_cases hr:M.ord 1 (f i).m (g k).m<0
     ·have dr:decide (M.ord 1 ⟨(f i).m.x,(f i).m.y,(f i).m.d,(f i).m.e⟩ ⟨(g k).m.x,(g k).m.y,(g k).m.d,(g k).m.e⟩<0)=true:=decide_eq_true hr;go_wp2_with (at_builtin;refine wpList_append_lies _ rfl (.tmp 103) (.tmp 108) 22 rfl w.heap.size 80 i0 _ 5 40 Tryz.underlying22 hi0 hz0 hz1 hz2 rfl (by omega) _ out.length (aF out) rfl (hownu.alloc _) ⟨wu.heap.size,0,none⟩ 1 1 (aF [g k]) rfl (by rw[aZ];rfl) (by rw[cU];exact World.news_of_block (heap_alloc_new wu _)) (dF _) (by omega) (by unfold maxLen;omega) (by omega) (by have:=hBu.size;simp;omega) _ rfl ?_;intro g0 cap0 w1 hown1 hgrow hat hlt1;have HB:=aA ((hBu.alloc hBu.size _).grown hgrow (gU hBu.size (by simp)) (fun k hk=>(hownu.lt k hk).1));have HO:=aA hown1;clear hown1 hgrow hat hlt1 hownu);go_roundw
      case rel=>
       refine⟨i,k+1,out++[g k],by omega,by omega,by go_num,by go_num,HB.out,?_,by simp;omega,?_⟩
       ·rw[bV,List.length_append];exact HO.out
       ·show out++[g k]++cT f la g lb (i) (k+1)=_;rw[←HL.out,vN hkb (.inr hr),List.append_assoc];rfl
      case measure=>simp[intOf];omega
     ·have dr:decide (M.ord 1 ⟨(f i).m.x,(f i).m.y,(f i).m.d,(f i).m.e⟩ ⟨(g k).m.x,(g k).m.y,(g k).m.d,(g k).m.e⟩<0)=false:=decide_eq_false hr;have h0:M.ord 1 (f i).m (g k).m=0:=by omega
      have ne2:=cO.there wu;have bau:ba<wu.heap.size:=dR hal hBu.size
      have bbu:bb<wu.heap.size:=dR hbl hBu.size;have e0:∀u:cO wu,u.1.cell? ⟨ba,oa+i*5,none⟩=some (.int .i64 (f i).c):=fun u=>(u.cell bau).trans x0
      have e1:∀u:cO wu,u.1.cell? ⟨bb,ob+k*5,none⟩=some (.int .i64 (g k).c):=fun u=>(u.cell bbu).trans y0;have HX:=aA (show eK wu ba (oa+i*5) (f i)from⟨x0,x1,x2,x3,x4⟩)
      have HOW:=aA hownu;have H0:=aA h0
      have h0':M.ord 1 ⟨(f i).m.x,(f i).m.y,(f i).m.d,(f i).m.e⟩ ⟨(g k).m.x,(g k).m.y,(g k).m.d,(g k).m.e⟩=0:=h0;clear x0 x1 x2 x3 x4 y0 y1 y2 y3 y4 hownu h0 hq hr dq dr;go_wp2_with fail;refine aS (by kernel_rfl) (by kernel_rfl) ?_;repeat(go_big_quiet_step (fail))
      refine wpQuiet_nil ?_;rintro wv ⟨x,hx⟩;have hv:Below wu.heap.size wu wv:=by rw[hx];exact x.2
      clear hx x;have hBv:=hBu.trans (hv.mono hBu.size)
      have hownv:=aT HOW.out hv;obtain⟨z0,z1,z2,z3,z4⟩:=HX.out.below hv bau;clear e0 e1 HX HOW hBu hv;by_cases hc0:((f i).c+(g k).c)%101=0
      ·have HC:=aA hc0;have hcb:(((f i).c+(g k).c)%101 !=0)=false:=by simp[hc0]
       have HO:=aA hownv;clear hc0 hownv;go_wp2;go_roundw
       case rel=>
        refine⟨i+1,k+1,out,by omega,by omega,by go_num,by go_num,hBv,HO.out,by omega,?_⟩;show out++cT f la g lb (i+1) (k+1)=_
        rw[←HL.out,vM hia hkb H0.out,if_neg (fun h=>h HC.out)];rfl
       case measure=>simp[intOf];omega
      ·have HC:=aA hc0;have hcb:(((f i).c+(g k).c)%101 !=0)=true:=by simp[hc0]
       clear hc0;go_wp2_with (at_builtin;refine wpList_append_lies _ rfl (.tmp 56) (.tmp 64) 22 rfl w.heap.size 80 i0 _ 5 40 Tryz.underlying22 hi0 hz0 hz1 hz2 rfl (by omega) _ out.length (aF out) rfl (hownv.alloc _) ⟨wv.heap.size,0,none⟩ 1 1 (aF [⟨((f i).c+(g k).c)%101,(f i).m⟩]) rfl (by rw[aZ];rfl) (by rw[cU];exact World.news_of_block (heap_alloc_new wv _)) (dF _) (by omega) (by unfold maxLen;omega) (by omega) (by have:=hBv.size;simp;omega) _ rfl ?_;intro g0 cap0 w1 hown1 hgrow hat hlt1;have HB:=aA ((hBv.alloc hBv.size _).grown hgrow (gU hBv.size (by simp)) (fun k hk=>(hownv.lt k hk).1));have HO:=aA hown1;clear hown1 hgrow hat hlt1 hownv);go_roundw
       case rel=>
        refine⟨i+1,k+1,out++[⟨((f i).c+(g k).c)%101,(f i).m⟩],by omega,by omega,by go_num,by go_num,HB.out,?_,by simp;omega,?_⟩
        ·rw[bV,List.length_append];exact HO.out
        ·show out++[⟨((f i).c+(g k).c)%101,(f i).m⟩]++cT f la g lb (i+1) (k+1)=_;rw[←HL.out,vM hia hkb H0.out,if_pos HC.out,List.append_assoc]
       case measure=>simp[intOf];omega
   ·have hkk:k=lb:=by omega
    obtain⟨x0,x1,x2,x3,x4⟩:=(hac i hia).below hB hal;have ke:((k:Int)==(lb:Int))=true:=by simp;omega
    have kl:¬(k:Int)<(lb:Int):=by omega
    clear hac hcf hcg hkk;go_wp2_with (at_builtin;refine wpList_append_lies _ rfl (.tmp 85) (.tmp 90) 22 rfl w.heap.size 80 i0 _ 5 40 Tryz.underlying22 hi0 hz0 hz1 hz2 rfl (by omega) _ out.length (aF out) rfl (hown.alloc _) ⟨wr.heap.size,0,none⟩ 1 1 (aF [f i]) rfl (by rw[aZ];rfl) (by rw[cU];exact World.news_of_block (heap_alloc_new wr _)) (dF _) (by omega) (by unfold maxLen;omega) (by omega) (by have:=hB.size;simp;omega) _ rfl ?_;intro g0 cap0 w1 hown1 hgrow hat hlt1;have HB:=aA ((hB.alloc hB.size _).grown hgrow (gU hB.size (by simp)) (fun k hk=>(hown.lt k hk).1));have HO:=aA hown1;clear hown1 hgrow hat hlt1 hown);go_roundw
    case rel=>
     refine⟨i+1,k,out++[f i],by omega,by omega,by go_num,by go_num,HB.out,?_,by simp;omega,?_⟩
     ·rw[bV,List.length_append];exact HO.out
     ·show out++[f i]++cT f la g lb (i+1) (k)=_;rw[←HL.out,qW hia (.inl hkb),List.append_assoc];rfl
    case measure=>simp[intOf];omega
  ·have il:¬(i:Int)<(la:Int):=by omega
   have ie:((i:Int)==(la:Int))=true:=by simp;omega
   by_cases hkb:k<lb
   ·rcases b3 with h0|⟨bb,ob,rfl,hbl,hbc⟩
    ·omega
    have hkn:(k:Int)<(lb:Int):=by omega
    have ke:((k:Int)==(lb:Int))=false:=by simp;omega
    obtain⟨y0,y1,y2,y3,y4⟩:=(hbc k hkb).below hB hbl;clear hbc hcf hcg;go_wp2_with (at_builtin;refine wpList_append_lies _ rfl (.tmp 103) (.tmp 108) 22 rfl w.heap.size 80 i0 _ 5 40 Tryz.underlying22 hi0 hz0 hz1 hz2 rfl (by omega) _ out.length (aF out) rfl (hown.alloc _) ⟨wr.heap.size,0,none⟩ 1 1 (aF [g k]) rfl (by rw[aZ];rfl) (by rw[cU];exact World.news_of_block (heap_alloc_new wr _)) (dF _) (by omega) (by unfold maxLen;omega) (by omega) (by have:=hB.size;simp;omega) _ rfl ?_;intro g0 cap0 w1 hown1 hgrow hat hlt1;have HB:=aA ((hB.alloc hB.size _).grown hgrow (gU hB.size (by simp)) (fun k hk=>(hown.lt k hk).1));have HO:=aA hown1;clear hown1 hgrow hat hlt1 hown);go_roundw
    case rel=>
     refine⟨i,k+1,out++[g k],by omega,by omega,by go_num,by go_num,HB.out,?_,by simp;omega,?_⟩
     ·rw[bV,List.length_append];exact HO.out
     ·show out++[g k]++cT f la g lb (i) (k+1)=_;rw[←HL.out,vN hkb (.inl hia),List.append_assoc];rfl
    case measure=>simp[intOf];omega
   ·have kl:¬(k:Int)<(lb:Int):=by omega
    have HO:=aA hown;clear hown hcf hcg;go_wp2;go_ret;refine⟨_,rfl,hB,?_⟩;rw[←HL.out,sM hia hkb,List.append_nil];exact HO.out
def lf (L:List T) (i:Nat):T:=L.getD i ⟨0,⟨0,0,0,0⟩⟩
theorem pT (L:List T):∀j,j<L.length*5→(aF L)[j]? =some (cf (lf L) j):=by
 induction L with
 |nil=>intro j h;simp at h
 |cons t r ih=>
  intro j h;have e:aF (t::r)=t.cells++aF r:=rfl
  rw[e];by_cases hj:j<5
  ·rw[List.getElem?_append_left (by simp[T.cells];omega)];have h5:j=0∨j=1∨j=2∨j=3∨j=4:=by omega
   rcases h5 with rfl|rfl|rfl|rfl|rfl<;>rfl
  ·rw[List.getElem?_append_right (by simp[T.cells];omega),show T.cells t=[.int .i64 t.c,.int .i64 t.m.x,.int .i64 t.m.y,.int .i64 t.m.d,.int .i64 t.m.e]from rfl];simp only[List.length_cons,List.length_nil];rw[ih (j-5) (by simp at h;omega)];obtain⟨q,rfl⟩:∃q,j=q+5:=⟨j-5,by omega⟩
   simp only[Nat.add_sub_cancel];unfold cf;rw[show(q+5)%5=q%5 by omega,show(q+5) / 5=q / 5+1 by omega];rfl
def mB (lo:Nat) (w:World) (a:Option Addr) (cap:Nat) (L:List T):Prop:=
 Rd w a L.length cap (lf L)∧Wr w a L.length (lf L)∧(L.length=0∨∃g off,a=some ⟨g,off,none⟩∧lo≤g)
theorem aM {w:World} {lo:Nat} {v:Value} {L:List T} (h:w.ownsRow lo 80 5 v L.length (aF L)) (hl:L.length*40≤140737488351232):∃a cap,v= .slice a L.length cap∧mB lo w a cap L:=by
 rcases h.2 with⟨hv,h0⟩|⟨g,cap,cur,hv,hlo,hg,hn,hm,hs,ht⟩
 ·refine⟨none,0,by rw[hv,h0],⟨by omega,hl,.inl h0⟩,.inl h0,.inl h0⟩
 ·have hat:∀j,j<L.length*5→cur[j]? =some (cf (lf L) j):=by intro j hj;rw[←pT L j hj,←ht,List.getElem?_take_of_lt hj];simp
  have hc5:L.length*5≤cap*5:=by omega
  have hrow:w.rowIs g 80 (cap*5) (fun j=>cur.getD j undef):=⟨cur,hg,hs,fun j hj=>by
   have hjs:j<cur.size:=by omega
   show cur[j]? =some (cur.getD j undef)
   rw[Array.getD_eq_getD_getElem?,Array.getElem?_eq_getElem hjs]
   rfl⟩
  have hcell:∀j,j<L.length*5→w.cell? ⟨g,j,none⟩=some (cf (lf L) j):=by intro j hj;rw[hrow.cell (by omega),Array.getD_eq_getD_getElem?,hat j hj];rfl
  refine⟨some ⟨g,0,none⟩,cap,hv,⟨hn,hl,.inr ⟨g,0,rfl,hrow.lt,fun i hi=>?_⟩⟩,.inr ⟨g,0,cap*5,_,rfl,hrow,by omega,fun j hj=>?_⟩,.inr ⟨g,0,rfl,hlo⟩⟩
  ·rw[Nat.zero_add];exact⟨by rw[hcell _ (by omega),EU],by rw[hcell _ (by omega),CK],by rw[hcell _ (by omega),CL],by rw[hcell _ (by omega),FQ],by rw[hcell _ (by omega),FR]⟩
  ·rw[Nat.zero_add,Array.getD_eq_getD_getElem?,hat j hj];rfl
theorem Wr.below {w w':World} {a:Option Addr} {n:Nat} {f:Nat→T} (h:Wr w a n f) (hb:Below w.heap.size w w'):Wr w' a n f:=by
 rcases h with h0|⟨g,off,N,F,rfl,hR,hN,hF⟩
 ·exact .inl h0
 ·exact .inr ⟨g,off,N,F,rfl,hR.of_block (hb.block g hR.lt),hN,hF⟩
theorem mB.below {lo:Nat} {w w':World} {a:Option Addr} {cap:Nat} {L:List T} (h:mB lo w a cap L) (hb:Below w.heap.size w w'):mB lo w' a cap L:=⟨h.1.below hb,h.2.1.below hb,h.2.2⟩
theorem eK.same {w w':World} {b o:Nat} {t:T} (h:eK w b o t) (he:w'.heap[b]? =w.heap[b]?):eK w' b o t:=by obtain⟨h0,h1,h2,h3,h4⟩:=h;exact⟨(kV (w:=w) (a:=⟨b,o,none⟩) he).trans h0,(kV (w:=w) (a:=⟨b,o+1,none⟩) he).trans h1,(kV (w:=w) (a:=⟨b,o+2,none⟩) he).trans h2,(kV (w:=w) (a:=⟨b,o+3,none⟩) he).trans h3,(kV (w:=w) (a:=⟨b,o+4,none⟩) he).trans h4⟩
theorem Rd.grown {w w':World} {a:Option Addr} {n cap:Nat} {f:Nat→T} {row:Option Nat} (h:Rd w a n cap f) (hg:w.grownBy w' row) (hne:n=0∨∀b off,a=some ⟨b,off,none⟩→some b≠row):Rd w' a n cap f:=by
 obtain⟨h1,h2,h3⟩:=h;refine⟨h1,h2,?_⟩;rcases h3 with h0|⟨b,off,rfl,hlt,hc⟩
 ·exact .inl h0
 ·rcases hne with h0|hne
  ·exact .inl h0
  ·exact .inr ⟨b,off,rfl,dR hlt hg.size,fun i hi=>(hc i hi).same (hg.block b hlt (hne b off rfl))⟩
theorem dB {w:World} {base base':Nat} {e:TypeId} {size:Nat} {v:Value} {n:Nat} {xs:List Value} (h:w.ownsRow base e size v n xs) (hb:base'≤base):w.ownsRow base' e size v n xs:=by
 refine⟨h.1,?_⟩;rcases h.2 with h0|⟨g,cap,cur,hv,hlo,hr⟩
 ·exact .inl h0
 ·exact .inr ⟨g,cap,cur,hv,gU hb hlo,hr⟩
theorem wL {n:Nat} {f:Nat→T} (h:aN n f=true):n≤400∧∀i,i<n→0≤(f i).c∧(f i).c≤100:=by
 simp only[aN,decide_eq_true_eq]at h;refine⟨h.1,fun i hi=>?_⟩;have:=h.2 i hi
 simp only[eW,Bool.and_eq_true,decide_eq_true_eq]at this;omega
def bF (f:Nat→T) (la:Nat) (g:Nat→T) (lb:Nat):List T×Bool:=
 if aN la f=true∧aN lb g=true∧(cT f la g lb 0 0).length≤400 then(cT f la g lb 0 0,true)else([],false)
theorem aQ (w:World) (lo:Nat) (h:lo≤w.heap.size):(w.alloc (.cells #[] 80)).ownsRow lo 80 5 (.slice (some ⟨w.heap.size,0,none⟩) 0 0) 0 (aF []):=World.ownsRow_lit _ _ _ h (gC _) rfl
theorem wK (w:World) (a b:Option Addr) (la ca lb cb:Nat) (f g:Nat→T) (ha:Rd w a la ca f) (hb:Rd w b lb cb g):Calls Tryz.prog 53 #[.slice a la ca,.slice b lb cb] w fun r w'=>∃v,r= .returned (.tuple #[v,.bool (bF f la g lb).2])∧Below w.heap.size w w'∧w'.ownsRow w.heap.size 80 5 v (bF f la g lb).1.length (aF (bF f la g lb).1):=by
 cases hpa:aN la f
 ·have e1:bF f la g lb=([],false):=by simp[bF,hpa]
  rw[e1];have HA:=aA ha
  clear ha hb e1;go_enter Tryz.func53,Tryz.ntmps53;go_wp2_with fail;refine(bD _ _ _ _ f HA.out).mono ?_;rw[hpa];rintro r w1 ⟨rfl,h1⟩;go_wp2
  go_ret2
  exact⟨_,rfl,h1.alloc h1.size _,aQ w1 _ h1.size⟩
 ·cases hpb:aN lb g
  ·have e1:bF f la g lb=([],false):=by simp[bF,hpb]
   rw[e1];have HA:=aA ha
   have HB:=aA hb;clear ha hb e1;go_enter Tryz.func53,Tryz.ntmps53;go_wp2_with fail;refine(bD _ _ _ _ f HA.out).mono ?_;rw[hpa];rintro r w1 ⟨rfl,h1⟩;go_wp2_with fail;refine(bD _ _ _ _ g (HB.out.below h1)).mono ?_;rw[hpb];rintro r w2 ⟨rfl,h2⟩;have h12:=aC h1 h2
   go_wp2
   go_ret2
   exact⟨_,rfl,h12.alloc h12.size _,aQ w2 _ h12.size⟩
  ·obtain⟨l1,c1⟩:=wL hpa;obtain⟨l2,c2⟩:=wL hpb;have HA:=aA ha
   have HB:=aA hb;have HC1:=aA c1
   have HC2:=aA c2;have hlen:=jK f la g lb 0 0
   clear ha hb c1 c2;go_enter Tryz.func53,Tryz.ntmps53;go_wp2_with fail;refine(bD _ _ _ _ f HA.out).mono ?_;rw[hpa];rintro r w1 ⟨rfl,h1⟩;go_wp2_with fail;refine(bD _ _ _ _ g (HB.out.below h1)).mono ?_;rw[hpb];rintro r w2 ⟨rfl,h2⟩;have h12:=aC h1 h2
   go_wp2_with fail;refine(mH _ _ _ _ _ _ _ f g (HA.out.below h12) (HB.out.below h12) (by omega) HC1.out HC2.out).mono ?_;rintro r w3 ⟨v,rfl,h3,hown⟩;have h123:=aC h12 h3
   have hlow:=dB hown h12.size;obtain⟨a',cap',rfl,hout⟩:=aM hlow (by omega);have HO:=aA hlow
   clear hown hlow hout;by_cases hle:(cT f la g lb 0 0).length≤400
   ·have e1:bF f la g lb=(cT f la g lb 0 0,true):=by simp[bF,hpa,hpb,hle]
    have E1:=aA e1;have hle':((cT f la g lb 0 0).length:Int)≤400:=by omega
    clear e1;go_wp2
    go_ret2
    rw[E1.out];exact⟨_,rfl,h123,HO.out⟩
   ·have e1:bF f la g lb=([],false):=by simp[bF,hle]
    have E1:=aA e1;have hle':(400:Int)<((cT f la g lb 0 0).length:Int):=by omega
    clear e1;go_wp2
    go_ret2
    rw[E1.out];exact⟨_,rfl,h123.alloc h123.size _,aQ w3 _ h123.size⟩
end Go.Proofs.YtoglomfejgpoeaaGreatDoor
