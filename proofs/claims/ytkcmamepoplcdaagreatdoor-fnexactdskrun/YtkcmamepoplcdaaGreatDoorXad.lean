/-
  What the model's sum of two rows of terms returns: they are merged, the greater term first.
-/
import Derived.Test.YtkcmamepoplcdaaGreatDoorXac
import Derived.Deep.AppendLies
import Derived.Lib.Strings
import Derived.Lib.AtoiAll
import Derived.Lib.AtoiTie
set_option maxHeartbeats 8000000
set_option maxRecDepth 100000
namespace Go.Proofs.YtkcmamepoplcdaaGreatDoor
open Go.RowKit
set_option linter.unusedVariables false
def T.cells (t:T):List Value:=[.int .i64 t.c,.int .i64 t.m.x,.int .i64 t.m.y,.int .i64 t.m.d,.int .i64 t.m.e]
def aG:List T→List Value
 |[]=>[]
 |t::r=>t.cells++aG r
theorem bY (a b:List T):aG (a++b)=aG a++aG b:=by
 induction a with
 |nil=>rfl
 |cons t r ih=>simp[aG,ih,List.append_assoc]
theorem bL (a:List T):(aG a).length=a.length*5:=by
 induction a with
 |nil=>rfl
 |cons t r ih=>simp[aG,T.cells,ih];omega
theorem dE (t:T):aG [t]=[.int .i64 t.c,.int .i64 t.m.x,.int .i64 t.m.y,.int .i64 t.m.d,.int .i64 t.m.e]:=by simp[aG,T.cells]
def fB (f:Nat→T) (la:Nat) (g:Nat→T) (lb:Nat):Nat→Nat→Nat→List T
 |0,_,_=>[]
 |u+1,i,k=>
  if i<la∧k<lb then
   if 0<M.ord 1 (f i).m (g k).m then f i::fB f la g lb u (i+1) k
   else if M.ord 1 (f i).m (g k).m<0 then g k::fB f la g lb u i (k+1)
   else if((f i).c+(g k).c)%101≠0 then⟨((f i).c+(g k).c)%101,(f i).m⟩::fB f la g lb u (i+1) (k+1)
   else fB f la g lb u (i+1) (k+1)
  else if i<la then f i::fB f la g lb u (i+1) k
  else if k<lb then g k::fB f la g lb u i (k+1)
  else[]
theorem iK (f:Nat→T) (la:Nat) (g:Nat→T) (lb:Nat):∀(u v i k:Nat),la-i+(lb-k)≤u→la-i+(lb-k)≤v→fB f la g lb u i k=fB f la g lb v i k
 |0,0,_,_,_,_=>rfl
 |0,v+1,i,k,h,_=>by simp only[fB];rw[if_neg (by omega),if_neg (by omega),if_neg (by omega)]
 |u+1,0,i,k,_,h=>by simp only[fB];rw[if_neg (by omega),if_neg (by omega),if_neg (by omega)]
 |u+1,v+1,i,k,h,h'=>by
  simp only[fB];by_cases h1:i<la∧k<lb
  ·rw[if_pos h1,if_pos h1,iK f la g lb u v (i+1) k (by omega) (by omega),iK f la g lb u v i (k+1) (by omega) (by omega),iK f la g lb u v (i+1) (k+1) (by omega) (by omega)]
  ·rw[if_neg h1,if_neg h1];by_cases h2:i<la
   ·rw[if_pos h2,if_pos h2,iK f la g lb u v (i+1) k (by omega) (by omega)]
   ·rw[if_neg h2,if_neg h2];by_cases h3:k<lb
    ·rw[if_pos h3,if_pos h3,iK f la g lb u v i (k+1) (by omega) (by omega)]
    ·rw[if_neg h3,if_neg h3]
def cV (f:Nat→T) (la:Nat) (g:Nat→T) (lb:Nat) (i k:Nat):List T:=fB f la g lb (la-i+(lb-k)) i k
theorem uX {f:Nat→T} {la:Nat} {g:Nat→T} {lb i k:Nat} (hi:i<la) (h:¬k<lb∨0<M.ord 1 (f i).m (g k).m):cV f la g lb i k=f i::cV f la g lb (i+1) k:=by
 unfold cV;rw[show la-i+(lb-k)=(la-(i+1)+(lb-k))+1 by omega];simp only[fB];by_cases hk:k<lb
 ·rw[if_pos ⟨hi,hk⟩,if_pos (h.resolve_left (fun h=>h hk))]
 ·rw[if_neg (fun h=>hk h.2),if_pos hi]
theorem AO {f:Nat→T} {la:Nat} {g:Nat→T} {lb i k:Nat} (hk:k<lb) (h:¬i<la∨M.ord 1 (f i).m (g k).m<0):cV f la g lb i k=g k::cV f la g lb i (k+1):=by
 unfold cV;rw[show la-i+(lb-k)=(la-i+(lb-(k+1)))+1 by omega];simp only[fB];by_cases hi:i<la
 ·have h':=h.resolve_left (fun h=>h hi);rw[if_pos ⟨hi,hk⟩,if_neg (by omega),if_pos h']
 ·rw[if_neg (fun h=>hi h.1),if_neg hi,if_pos hk]
theorem AN {f:Nat→T} {la:Nat} {g:Nat→T} {lb i k:Nat} (hi:i<la) (hk:k<lb) (h:M.ord 1 (f i).m (g k).m=0):cV f la g lb i k=(if((f i).c+(g k).c)%101≠0 then[⟨((f i).c+(g k).c)%101,(f i).m⟩]else[])++cV f la g lb (i+1) (k+1):=by
 unfold cV;rw[show la-i+(lb-k)=(la-i+(lb-k)-1)+1 by omega];simp only[fB];rw[if_pos ⟨hi,hk⟩,if_neg (by omega),if_neg (by omega),iK f la g lb (la-i+(lb-k)-1) (la-(i+1)+(lb-(k+1))) (i+1) (k+1) (by omega) (by omega)];by_cases hc:((f i).c+(g k).c)%101≠0
 ·rw[if_pos hc,if_pos hc];rfl
 ·rw[if_neg hc,if_neg hc];rfl
theorem wW {f:Nat→T} {la:Nat} {g:Nat→T} {lb i k:Nat} (hi:¬i<la) (hk:¬k<lb):cV f la g lb i k=[]:=by unfold cV;rw[show la-i+(lb-k)=0 by omega];rfl
theorem nA (f:Nat→T) (la:Nat) (g:Nat→T) (lb:Nat):∀(u i k:Nat),(fB f la g lb u i k).length≤u
 |0,_,_=>by simp[fB]
 |u+1,i,k=>by
  have a1:=nA f la g lb u (i+1) k;have a2:=nA f la g lb u i (k+1)
  have a3:=nA f la g lb u (i+1) (k+1);simp only[fB]
  repeat' split
  all_goals simp
  all_goals omega
theorem lC (f:Nat→T) (la:Nat) (g:Nat→T) (lb i k:Nat):(cV f la g lb i k).length≤la-i+(lb-k):=nA _ _ _ _ _ _ _
theorem eC (t:T):∀u∈aG [t],u.oneCell'=true:=by rw[dE];intro u hu;simp only[List.mem_cons,List.not_mem_nil,or_false]at hu;rcases hu with rfl|rfl|rfl|rfl|rfl<;>rfl
theorem cW {w w':World} (h:Below w.heap.size w w'):w.grownBy w' none:=⟨h.os,h.tape,h.output,h.size,fun k hk _=>h.block k hk⟩
theorem aK {w w':World} {base:Nat} {e:TypeId} {size:Nat} {v:Value} {n:Nat} {xs:List Value} (h:w.ownsRow base e size v n xs) (hb:Below w.heap.size w w'):w'.ownsRow base e size v n xs:=by
 refine h.kept (cW hb) ?_;cases hv:v.ownBlock with
 |none=>exact .inl rfl
 |some k=>exact .inr (by simp)
theorem oS (w:World) (a b:Option Addr) (la ca lb cb:Nat) (f g:Nat→T) (ha:Rd w a la ca f) (hb:Rd w b lb cb g) (hl:la+lb≤1000000) (hcf:∀i,i<la→0≤(f i).c∧(f i).c≤100) (hcg:∀i,i<lb→0≤(g i).c∧(g i).c≤100):Calls Tryz.prog 100 #[.slice a la ca,.slice b lb cb] w fun r w'=>∃v,r= .returned v∧Below w.heap.size w w'∧w'.ownsRow w.heap.size 79 5 v (cV f la g lb 0 0).length (aG (cV f la g lb 0 0)):=by
 obtain⟨i0,hi0,hz0,hz1,hz2⟩:=info_parts xZ;obtain⟨a1,a2,a3⟩:=ha;obtain⟨b1,b2,b3⟩:=hb;have hla:(la:Int)≤1000000:=by omega
 have hlb:(lb:Int)≤1000000:=by omega
 go_enter Tryz.func100,Tryz.ntmps100;go_wp2;go_loopw [5,6,7] (fun v ii kk wr=>∃(i k:Nat) (out:List T),i≤la∧k≤lb∧ii= .int .i64 i∧kk= .int .i64 k∧Below w.heap.size w wr∧wr.ownsRow w.heap.size 79 5 v out.length (aG out)∧out.length≤i+k∧Hid (out++cV f la g lb i k=cV f la g lb 0 0)) (fun _ ii kk _=>(la-(intOf ii).toNat)+(lb-(intOf kk).toNat));case atStart=>exact⟨0,0,[],gO _,gO _,rfl,rfl,(aD _ _).alloc (Nat.le_refl _) _,World.ownsRow_lit _ _ _ (Nat.le_refl _) (gO _) rfl,gO _,rfl⟩
 case round=>
  obtain⟨i,k,out,hi,hk,rfl,rfl,hB,hown,hol,HL⟩:=hrel;by_cases hia:i<la
  ·rcases a3 with h0|⟨ba,oa,rfl,hal,hac⟩
   ·omega
   have hin:(i:Int)<(la:Int):=by omega
   by_cases hkb:k<lb
   ·rcases b3 with h0|⟨bb,ob,rfl,hbl,hbc⟩
    ·omega
    have hkn:(k:Int)<(lb:Int):=by omega
    have hba:ba<wr.heap.size:=eB hal hB.size;have hbb:bb<wr.heap.size:=eB hbl hB.size
    have ne:=dQ.there wr;have hca:=(hac i hia).below hB hal
    have hcb:=(hbc k hkb).below hB hbl;obtain⟨QO,QQ⟩:=hcf i hia;obtain⟨cg1,cg2⟩:=hcg k hkb;have ke:((k:Int)==(lb:Int))=false:=by simp;omega
    have ie:((i:Int)==(la:Int))=false:=by simp;omega
    have s0:∀u:dQ wr,u.1.cell? ⟨ba,oa+i*5,none⟩=some (.int .i64 (f i).c):=fun u=>(u.cell hba).trans hca.1;have s1:∀u:dQ wr,u.1.cell? ⟨ba,oa+i*5+1,none⟩=some (.int .i64 (f i).m.x):=fun u=>(u.cell hba).trans hca.2.1
    have s2:∀u:dQ wr,u.1.cell? ⟨ba,oa+i*5+2,none⟩=some (.int .i64 (f i).m.y):=fun u=>(u.cell hba).trans hca.2.2.1;have s3:∀u:dQ wr,u.1.cell? ⟨ba,oa+i*5+3,none⟩=some (.int .i64 (f i).m.d):=fun u=>(u.cell hba).trans hca.2.2.2.1
    have s4:∀u:dQ wr,u.1.cell? ⟨ba,oa+i*5+4,none⟩=some (.int .i64 (f i).m.e):=fun u=>(u.cell hba).trans hca.2.2.2.2;have t0:∀u:dQ wr,u.1.cell? ⟨bb,ob+k*5,none⟩=some (.int .i64 (g k).c):=fun u=>(u.cell hbb).trans hcb.1
    have t1:∀u:dQ wr,u.1.cell? ⟨bb,ob+k*5+1,none⟩=some (.int .i64 (g k).m.x):=fun u=>(u.cell hbb).trans hcb.2.1;have t2:∀u:dQ wr,u.1.cell? ⟨bb,ob+k*5+2,none⟩=some (.int .i64 (g k).m.y):=fun u=>(u.cell hbb).trans hcb.2.2.1
    have t3:∀u:dQ wr,u.1.cell? ⟨bb,ob+k*5+3,none⟩=some (.int .i64 (g k).m.d):=fun u=>(u.cell hbb).trans hcb.2.2.2.1;have t4:∀u:dQ wr,u.1.cell? ⟨bb,ob+k*5+4,none⟩=some (.int .i64 (g k).m.e):=fun u=>(u.cell hbb).trans hcb.2.2.2.2
    have HOW:=aA hown;have HCA:=aA hca
    have HCB:=aA hcb;clear hac hbc hcf hcg hown hca hcb;go_wp2_with fail;refine aR (by kernel_rfl) (by kernel_rfl) ?_;repeat(go_big_quiet_step (first|(go_at_call 61;exact bQ (II _ _ _ _ _ _ _ _ _))))
    refine wpQuiet_nil ?_;rintro wu ⟨x,hx⟩;have hu:Below wr.heap.size wr wu:=by rw[hx];exact x.2
    clear hx x;have hBu:=hB.trans (hu.mono hB.size)
    have hownu:=aK HOW.out hu;obtain⟨x0,x1,x2,x3,x4⟩:=HCA.out.below hu hba;obtain⟨y0,y1,y2,y3,y4⟩:=HCB.out.below hu hbb;clear s0 s1 s2 s3 s4 t0 t1 t2 t3 t4 HOW HCA HCB hB hu;by_cases hq:0<M.ord 1 (f i).m (g k).m
    ·have dq:decide (0<M.ord 1 ⟨(f i).m.x,(f i).m.y,(f i).m.d,(f i).m.e⟩ ⟨(g k).m.x,(g k).m.y,(g k).m.d,(g k).m.e⟩)=true:=decide_eq_true hq;go_wp2_with (at_builtin;refine wpList_append_lies _ rfl (.tmp 85) (.tmp 90) 22 rfl w.heap.size 79 i0 _ 5 40 Tryz.underlying22 hi0 hz0 hz1 hz2 rfl (by omega) _ out.length (aG out) rfl (hownu.alloc _) ⟨wu.heap.size,0,none⟩ 1 1 (aG [f i]) rfl (by rw[bL];rfl) (by rw[dE];exact World.news_of_block (heap_alloc_new wu _)) (eC _) (by omega) (by unfold maxLen;omega) (by omega) (by have:=hBu.size;simp;omega) _ rfl ?_;intro g0 cap0 w1 hown1 hgrow hat hlt1;have HB:=aA ((hBu.alloc hBu.size _).grown hgrow (jW hBu.size (by simp)) (fun k hk=>(hownu.lt k hk).1));have HO:=aA hown1;clear hown1 hgrow hat hlt1 hownu);go_roundw
     case rel=>
      refine⟨i+1,k,out++[f i],by omega,by omega,by go_num,by go_num,HB.out,?_,by simp;omega,?_⟩
      ·rw[bY,List.length_append];exact HO.out
      ·show out++[f i]++cV f la g lb (i+1) (k)=_;rw[←HL.out,uX hia (.inr hq),List.append_assoc];rfl
     case measure=>simp[intOf];omega
    ·have dq:decide (0<M.ord 1 ⟨(f i).m.x,(f i).m.y,(f i).m.d,(f i).m.e⟩ ⟨(g k).m.x,(g k).m.y,(g k).m.d,(g k).m.e⟩)=false:=decide_eq_false hq;by_cases hr:M.ord 1 (f i).m (g k).m<0
     ·have dr:decide (M.ord 1 ⟨(f i).m.x,(f i).m.y,(f i).m.d,(f i).m.e⟩ ⟨(g k).m.x,(g k).m.y,(g k).m.d,(g k).m.e⟩<0)=true:=decide_eq_true hr;go_wp2_with (at_builtin;refine wpList_append_lies _ rfl (.tmp 103) (.tmp 108) 22 rfl w.heap.size 79 i0 _ 5 40 Tryz.underlying22 hi0 hz0 hz1 hz2 rfl (by omega) _ out.length (aG out) rfl (hownu.alloc _) ⟨wu.heap.size,0,none⟩ 1 1 (aG [g k]) rfl (by rw[bL];rfl) (by rw[dE];exact World.news_of_block (heap_alloc_new wu _)) (eC _) (by omega) (by unfold maxLen;omega) (by omega) (by have:=hBu.size;simp;omega) _ rfl ?_;intro g0 cap0 w1 hown1 hgrow hat hlt1;have HB:=aA ((hBu.alloc hBu.size _).grown hgrow (jW hBu.size (by simp)) (fun k hk=>(hownu.lt k hk).1));have HO:=aA hown1;clear hown1 hgrow hat hlt1 hownu);go_roundw
      case rel=>
       refine⟨i,k+1,out++[g k],by omega,by omega,by go_num,by go_num,HB.out,?_,by simp;omega,?_⟩
       ·rw[bY,List.length_append];exact HO.out
       ·show out++[g k]++cV f la g lb (i) (k+1)=_;rw[←HL.out,AO hkb (.inr hr),List.append_assoc];rfl
      case measure=>simp[intOf];omega
     ·have dr:decide (M.ord 1 ⟨(f i).m.x,(f i).m.y,(f i).m.d,(f i).m.e⟩ ⟨(g k).m.x,(g k).m.y,(g k).m.d,(g k).m.e⟩<0)=false:=decide_eq_false hr;have h0:M.ord 1 (f i).m (g k).m=0:=by omega
      have ne2:=dQ.there wu;have bau:ba<wu.heap.size:=eB hal hBu.size
      have bbu:bb<wu.heap.size:=eB hbl hBu.size;have e0:∀u:dQ wu,u.1.cell? ⟨ba,oa+i*5,none⟩=some (.int .i64 (f i).c):=fun u=>(u.cell bau).trans x0
      have e1:∀u:dQ wu,u.1.cell? ⟨bb,ob+k*5,none⟩=some (.int .i64 (g k).c):=fun u=>(u.cell bbu).trans y0;have HX:=aA (show fL wu ba (oa+i*5) (f i)from⟨x0,x1,x2,x3,x4⟩)
      have HOW:=aA hownu;have H0:=aA h0
      have h0':M.ord 1 ⟨(f i).m.x,(f i).m.y,(f i).m.d,(f i).m.e⟩ ⟨(g k).m.x,(g k).m.y,(g k).m.d,(g k).m.e⟩=0:=h0;clear x0 x1 x2 x3 x4 y0 y1 y2 y3 y4 hownu h0 hq hr dq dr;go_wp2_with fail;refine aR (by kernel_rfl) (by kernel_rfl) ?_;repeat(go_big_quiet_step (fail))
      refine wpQuiet_nil ?_;rintro wv ⟨x,hx⟩;have hv:Below wu.heap.size wu wv:=by rw[hx];exact x.2
      clear hx x;have hBv:=hBu.trans (hv.mono hBu.size)
      have hownv:=aK HOW.out hv;obtain⟨z0,z1,z2,z3,z4⟩:=HX.out.below hv bau;clear e0 e1 HX HOW hBu hv;by_cases hc0:((f i).c+(g k).c)%101=0
      ·have HC:=aA hc0;have hcb:(((f i).c+(g k).c)%101 !=0)=false:=by simp[hc0]
       have HO:=aA hownv;clear hc0 hownv;go_wp2;go_roundw
       case rel=>
        refine⟨i+1,k+1,out,by omega,by omega,by go_num,by go_num,hBv,HO.out,by omega,?_⟩;show out++cV f la g lb (i+1) (k+1)=_
        rw[←HL.out,AN hia hkb H0.out,if_neg (fun h=>h HC.out)];rfl
       case measure=>simp[intOf];omega
      ·have HC:=aA hc0;have hcb:(((f i).c+(g k).c)%101 !=0)=true:=by simp[hc0]
       clear hc0;go_wp2_with (at_builtin;refine wpList_append_lies _ rfl (.tmp 56) (.tmp 64) 22 rfl w.heap.size 79 i0 _ 5 40 Tryz.underlying22 hi0 hz0 hz1 hz2 rfl (by omega) _ out.length (aG out) rfl (hownv.alloc _) ⟨wv.heap.size,0,none⟩ 1 1 (aG [⟨((f i).c+(g k).c)%101,(f i).m⟩]) rfl (by rw[bL];rfl) (by rw[dE];exact World.news_of_block (heap_alloc_new wv _)) (eC _) (by omega) (by unfold maxLen;omega) (by omega) (by have:=hBv.size;simp;omega) _ rfl ?_;intro g0 cap0 w1 hown1 hgrow hat hlt1;have HB:=aA ((hBv.alloc hBv.size _).grown hgrow (jW hBv.size (by simp)) (fun k hk=>(hownv.lt k hk).1));have HO:=aA hown1;clear hown1 hgrow hat hlt1 hownv);go_roundw
       case rel=>
        refine⟨i+1,k+1,out++[⟨((f i).c+(g k).c)%101,(f i).m⟩],by omega,by omega,by go_num,by go_num,HB.out,?_,by simp;omega,?_⟩
        ·rw[bY,List.length_append];exact HO.out
        ·show out++[⟨((f i).c+(g k).c)%101,(f i).m⟩]++cV f la g lb (i+1) (k+1)=_;rw[←HL.out,AN hia hkb H0.out,if_pos HC.out,List.append_assoc]
       case measure=>simp[intOf];omega
   ·have hkk:k=lb:=by omega
    obtain⟨x0,x1,x2,x3,x4⟩:=(hac i hia).below hB hal;have ke:((k:Int)==(lb:Int))=true:=by simp;omega
    have kl:¬(k:Int)<(lb:Int):=by omega
    clear hac hcf hcg hkk;go_wp2_with (at_builtin;refine wpList_append_lies _ rfl (.tmp 85) (.tmp 90) 22 rfl w.heap.size 79 i0 _ 5 40 Tryz.underlying22 hi0 hz0 hz1 hz2 rfl (by omega) _ out.length (aG out) rfl (hown.alloc _) ⟨wr.heap.size,0,none⟩ 1 1 (aG [f i]) rfl (by rw[bL];rfl) (by rw[dE];exact World.news_of_block (heap_alloc_new wr _)) (eC _) (by omega) (by unfold maxLen;omega) (by omega) (by have:=hB.size;simp;omega) _ rfl ?_;intro g0 cap0 w1 hown1 hgrow hat hlt1;have HB:=aA ((hB.alloc hB.size _).grown hgrow (jW hB.size (by simp)) (fun k hk=>(hown.lt k hk).1));have HO:=aA hown1;clear hown1 hgrow hat hlt1 hown);go_roundw
    case rel=>
     refine⟨i+1,k,out++[f i],by omega,by omega,by go_num,by go_num,HB.out,?_,by simp;omega,?_⟩
     ·rw[bY,List.length_append];exact HO.out
     ·show out++[f i]++cV f la g lb (i+1) (k)=_;rw[←HL.out,uX hia (.inl hkb),List.append_assoc];rfl
    case measure=>simp[intOf];omega
  ·have il:¬(i:Int)<(la:Int):=by omega
   have ie:((i:Int)==(la:Int))=true:=by simp;omega
   by_cases hkb:k<lb
   ·rcases b3 with h0|⟨bb,ob,rfl,hbl,hbc⟩
    ·omega
    have hkn:(k:Int)<(lb:Int):=by omega
    have ke:((k:Int)==(lb:Int))=false:=by simp;omega
    obtain⟨y0,y1,y2,y3,y4⟩:=(hbc k hkb).below hB hbl;clear hbc hcf hcg;go_wp2_with (at_builtin;refine wpList_append_lies _ rfl (.tmp 103) (.tmp 108) 22 rfl w.heap.size 79 i0 _ 5 40 Tryz.underlying22 hi0 hz0 hz1 hz2 rfl (by omega) _ out.length (aG out) rfl (hown.alloc _) ⟨wr.heap.size,0,none⟩ 1 1 (aG [g k]) rfl (by rw[bL];rfl) (by rw[dE];exact World.news_of_block (heap_alloc_new wr _)) (eC _) (by omega) (by unfold maxLen;omega) (by omega) (by have:=hB.size;simp;omega) _ rfl ?_;intro g0 cap0 w1 hown1 hgrow hat hlt1;have HB:=aA ((hB.alloc hB.size _).grown hgrow (jW hB.size (by simp)) (fun k hk=>(hown.lt k hk).1));have HO:=aA hown1;clear hown1 hgrow hat hlt1 hown);go_roundw
    case rel=>
     refine⟨i,k+1,out++[g k],by omega,by omega,by go_num,by go_num,HB.out,?_,by simp;omega,?_⟩
     ·rw[bY,List.length_append];exact HO.out
     ·show out++[g k]++cV f la g lb (i) (k+1)=_;rw[←HL.out,AO hkb (.inl hia),List.append_assoc];rfl
    case measure=>simp[intOf];omega
   ·have kl:¬(k:Int)<(lb:Int):=by omega
    have HO:=aA hown;clear hown hcf hcg;go_wp2;go_ret;refine⟨_,rfl,hB,?_⟩;rw[←HL.out,wW hia hkb,List.append_nil];exact HO.out
def lf (L:List T) (i:Nat):T:=L.getD i ⟨0,⟨0,0,0,0⟩⟩
theorem tI (L:List T):∀j,j<L.length*5→(aG L)[j]? =some (cf (lf L) j):=by
 induction L with
 |nil=>intro j h;simp at h
 |cons t r ih=>
  intro j h;have e:aG (t::r)=t.cells++aG r:=rfl
  rw[e];by_cases hj:j<5
  ·rw[List.getElem?_append_left (by simp[T.cells];omega)];have h5:j=0∨j=1∨j=2∨j=3∨j=4:=by omega
   rcases h5 with rfl|rfl|rfl|rfl|rfl<;>rfl
  ·rw[List.getElem?_append_right (by simp[T.cells];omega),show T.cells t=[.int .i64 t.c,.int .i64 t.m.x,.int .i64 t.m.y,.int .i64 t.m.d,.int .i64 t.m.e]from rfl];simp only[List.length_cons,List.length_nil];rw[ih (j-5) (by simp at h;omega)];obtain⟨q,rfl⟩:∃q,j=q+5:=⟨j-5,by omega⟩
   simp only[Nat.add_sub_cancel];unfold cf;rw[show(q+5)%5=q%5 by omega,show(q+5) / 5=q / 5+1 by omega];rfl
def iJ (lo:Nat) (w:World) (a:Option Addr) (cap:Nat) (L:List T):Prop:=
 Rd w a L.length cap (lf L)∧Wr w a L.length (lf L)∧(L.length=0∨∃g off,a=some ⟨g,off,none⟩∧lo≤g)
theorem aO {w:World} {lo:Nat} {v:Value} {L:List T} (h:w.ownsRow lo 79 5 v L.length (aG L)) (hl:L.length*40≤140737488351232):∃a cap,v= .slice a L.length cap∧iJ lo w a cap L:=by
 rcases h.2 with⟨hv,h0⟩|⟨g,cap,cur,hv,hlo,hg,hn,hm,hs,ht⟩
 ·refine⟨none,0,by rw[hv,h0],⟨by omega,hl,.inl h0⟩,.inl h0,.inl h0⟩
 ·have hat:∀j,j<L.length*5→cur[j]? =some (cf (lf L) j):=by intro j hj;rw[←tI L j hj,←ht,List.getElem?_take_of_lt hj];simp
  have hc5:L.length*5≤cap*5:=by omega
  have hrow:w.rowIs g 79 (cap*5) (fun j=>cur.getD j undef):=⟨cur,hg,hs,fun j hj=>by
   have hjs:j<cur.size:=by omega
   show cur[j]? =some (cur.getD j undef)
   rw[Array.getD_eq_getD_getElem?,Array.getElem?_eq_getElem hjs]
   rfl⟩
  have hcell:∀j,j<L.length*5→w.cell? ⟨g,j,none⟩=some (cf (lf L) j):=by intro j hj;rw[hrow.cell (by omega),Array.getD_eq_getD_getElem?,hat j hj];rfl
  refine⟨some ⟨g,0,none⟩,cap,hv,⟨hn,hl,.inr ⟨g,0,rfl,hrow.lt,fun i hi=>?_⟩⟩,.inr ⟨g,0,cap*5,_,rfl,hrow,by omega,fun j hj=>?_⟩,.inr ⟨g,0,rfl,hlo⟩⟩
  ·rw[Nat.zero_add];exact⟨by rw[hcell _ (by omega),SL],by rw[hcell _ (by omega),QO],by rw[hcell _ (by omega),QQ],by rw[hcell _ (by omega),SM],by rw[hcell _ (by omega),SN]⟩
  ·rw[Nat.zero_add,Array.getD_eq_getD_getElem?,hat j hj];rfl
theorem Wr.below {w w':World} {a:Option Addr} {n:Nat} {f:Nat→T} (h:Wr w a n f) (hb:Below w.heap.size w w'):Wr w' a n f:=by
 rcases h with h0|⟨g,off,N,F,rfl,hR,hN,hF⟩
 ·exact .inl h0
 ·exact .inr ⟨g,off,N,F,rfl,hR.of_block (hb.block g hR.lt),hN,hF⟩
theorem iJ.below {lo:Nat} {w w':World} {a:Option Addr} {cap:Nat} {L:List T} (h:iJ lo w a cap L) (hb:Below w.heap.size w w'):iJ lo w' a cap L:=⟨h.1.below hb,h.2.1.below hb,h.2.2⟩
theorem fL.same {w w':World} {b o:Nat} {t:T} (h:fL w b o t) (he:w'.heap[b]? =w.heap[b]?):fL w' b o t:=by obtain⟨h0,h1,h2,h3,h4⟩:=h;exact⟨(sP (w:=w) (a:=⟨b,o,none⟩) he).trans h0,(sP (w:=w) (a:=⟨b,o+1,none⟩) he).trans h1,(sP (w:=w) (a:=⟨b,o+2,none⟩) he).trans h2,(sP (w:=w) (a:=⟨b,o+3,none⟩) he).trans h3,(sP (w:=w) (a:=⟨b,o+4,none⟩) he).trans h4⟩
theorem Rd.grown {w w':World} {a:Option Addr} {n cap:Nat} {f:Nat→T} {row:Option Nat} (h:Rd w a n cap f) (hg:w.grownBy w' row) (hne:n=0∨∀b off,a=some ⟨b,off,none⟩→some b≠row):Rd w' a n cap f:=by
 obtain⟨h1,h2,h3⟩:=h;refine⟨h1,h2,?_⟩;rcases h3 with h0|⟨b,off,rfl,hlt,hc⟩
 ·exact .inl h0
 ·rcases hne with h0|hne
  ·exact .inl h0
  ·exact .inr ⟨b,off,rfl,eB hlt hg.size,fun i hi=>(hc i hi).same (hg.block b hlt (hne b off rfl))⟩
theorem bO {w:World} {base base':Nat} {e:TypeId} {size:Nat} {v:Value} {n:Nat} {xs:List Value} (h:w.ownsRow base e size v n xs) (hb:base'≤base):w.ownsRow base' e size v n xs:=by
 refine⟨h.1,?_⟩;rcases h.2 with h0|⟨g,cap,cur,hv,hlo,hr⟩
 ·exact .inl h0
 ·exact .inr ⟨g,cap,cur,hv,jW hb hlo,hr⟩
theorem CA {n:Nat} {f:Nat→T} (h:aH n f=true):n≤400∧∀i,i<n→0≤(f i).c∧(f i).c≤100:=by
 simp only[aH,decide_eq_true_eq]at h;refine⟨h.1,fun i hi=>?_⟩;have:=h.2 i hi
 simp only[fC,Bool.and_eq_true,decide_eq_true_eq]at this;omega
def cH (f:Nat→T) (la:Nat) (g:Nat→T) (lb:Nat):List T×Bool:=
 if aH la f=true∧aH lb g=true∧(cV f la g lb 0 0).length≤400 then(cV f la g lb 0 0,true)else([],false)
theorem aQ (w:World) (lo:Nat) (h:lo≤w.heap.size):(w.alloc (.cells #[] 79)).ownsRow lo 79 5 (.slice (some ⟨w.heap.size,0,none⟩) 0 0) 0 (aG []):=World.ownsRow_lit _ _ _ h (gO _) rfl
theorem BZ (w:World) (a b:Option Addr) (la ca lb cb:Nat) (f g:Nat→T) (ha:Rd w a la ca f) (hb:Rd w b lb cb g):Calls Tryz.prog 69 #[.slice a la ca,.slice b lb cb] w fun r w'=>∃v,r= .returned (.tuple #[v,.bool (cH f la g lb).2])∧Below w.heap.size w w'∧w'.ownsRow w.heap.size 79 5 v (cH f la g lb).1.length (aG (cH f la g lb).1):=by
 cases hpa:aH la f
 ·have e1:cH f la g lb=([],false):=by simp[cH,hpa]
  rw[e1];have HA:=aA ha
  clear ha hb e1;go_enter Tryz.func69,Tryz.ntmps69;go_wp2_with fail;refine(aY _ _ _ _ f HA.out).mono ?_;rw[hpa];rintro r w1 ⟨rfl,h1⟩;go_wp2
  go_ret2
  exact⟨_,rfl,h1.alloc h1.size _,aQ w1 _ h1.size⟩
 ·cases hpb:aH lb g
  ·have e1:cH f la g lb=([],false):=by simp[cH,hpb]
   rw[e1];have HA:=aA ha
   have HB:=aA hb;clear ha hb e1;go_enter Tryz.func69,Tryz.ntmps69;go_wp2_with fail;refine(aY _ _ _ _ f HA.out).mono ?_;rw[hpa];rintro r w1 ⟨rfl,h1⟩;go_wp2_with fail;refine(aY _ _ _ _ g (HB.out.below h1)).mono ?_;rw[hpb];rintro r w2 ⟨rfl,h2⟩;have h12:=aC h1 h2
   go_wp2
   go_ret2
   exact⟨_,rfl,h12.alloc h12.size _,aQ w2 _ h12.size⟩
  ·obtain⟨l1,c1⟩:=CA hpa;obtain⟨l2,c2⟩:=CA hpb;have HA:=aA ha
   have HB:=aA hb;have HC1:=aA c1
   have HC2:=aA c2;have hlen:=lC f la g lb 0 0
   clear ha hb c1 c2;go_enter Tryz.func69,Tryz.ntmps69;go_wp2_with fail;refine(aY _ _ _ _ f HA.out).mono ?_;rw[hpa];rintro r w1 ⟨rfl,h1⟩;go_wp2_with fail;refine(aY _ _ _ _ g (HB.out.below h1)).mono ?_;rw[hpb];rintro r w2 ⟨rfl,h2⟩;have h12:=aC h1 h2
   go_wp2_with fail;refine(oS _ _ _ _ _ _ _ f g (HA.out.below h12) (HB.out.below h12) (by omega) HC1.out HC2.out).mono ?_;rintro r w3 ⟨v,rfl,h3,hown⟩;have h123:=aC h12 h3
   have hlow:=bO hown h12.size;obtain⟨a',cap',rfl,hout⟩:=aO hlow (by omega);have HO:=aA hlow
   clear hown hlow hout;by_cases hle:(cV f la g lb 0 0).length≤400
   ·have e1:cH f la g lb=(cV f la g lb 0 0,true):=by simp[cH,hpa,hpb,hle]
    have E1:=aA e1;have hle':((cV f la g lb 0 0).length:Int)≤400:=by omega
    clear e1;go_wp2
    go_ret2
    rw[E1.out];exact⟨_,rfl,h123,HO.out⟩
   ·have e1:cH f la g lb=([],false):=by simp[cH,hle]
    have E1:=aA e1;have hle':(400:Int)<((cV f la g lb 0 0).length:Int):=by omega
    clear e1;go_wp2
    go_ret2
    rw[E1.out];exact⟨_,rfl,h123.alloc h123.size _,aQ w3 _ h123.size⟩
def jH (c:UInt8):Bool:=decide (48≤c.toNat∧c.toNat≤57)
def bV (l:List UInt8):List UInt8:=l.takeWhile jH
def oH (d:List UInt8):Int:=match Lib.atoiAll d with| .ok v=>v|_=>1
def kX (k:Nat) (l:List UInt8):List UInt8×Int:=if Lib.hasPrefix l [GT k]=true then((l.drop 1).drop (bV (l.drop 1)).length,oH (bV (l.drop 1)))else(l,0)
def BJ (s:List UInt8):Nat→List UInt8
 |0=>s
 |k+1=>(kX k (BJ s k)).1
def wR (s:List UInt8) (k:Nat):Int:=(kX k (BJ s k)).2
def gE (s:List UInt8):M:=⟨wR s 0,wR s 1,wR s 2,wR s 3⟩
theorem gV (l:List UInt8):(bV l).length≤l.length:=(List.takeWhile_prefix _).length_le
theorem BK (s:List UInt8):∀k,(BJ s k).length≤s.length
 |0=>Nat.le_refl _
 |k+1=>by
  have h:=BK s k;show(kX k (BJ s k)).1.length≤_
  unfold kX;split
  ·simp;omega
  ·exact h
def wO (t:List UInt8):Prop:=∀c r,t=c::r→jH c=false
theorem fA {d t:List UInt8} (hd:∀c∈d,jH c=true) (ht:wO t):bV (d++t)=d:=by
 induction d with
 |nil=>
  cases t with
  |nil=>rfl
  |cons c r=>unfold bV;rw[List.nil_append,List.takeWhile_cons,ht c r rfl];rfl
 |cons c d ih=>
  unfold bV at ih⊢;rw[List.cons_append,List.takeWhile_cons,hd c (by simp)];simp only[if_true];rw[ih (fun x hx=>hd x (by simp[hx]))]
theorem iE:∀n,n≤100→∀c∈Lib.decDigits n,jH c=true:=fun n hn c hc=>by
 have key:∀k,k<10→jH (UInt8.ofNat (48+k))=true:=fun k hk=>by rcases(show k=0∨k=1∨k=2∨k=3∨k=4∨k=5∨k=6∨k=7∨k=8∨k=9 by omega)with rfl|rfl|rfl|rfl|rfl|rfl|rfl|rfl|rfl|rfl<;>decide
 by_cases h1:n<10
 ·rw[dH h1]at hc;rw[List.mem_singleton.1 hc];exact key n h1
 ·rw[dL h1]at hc;rcases List.mem_append.1 hc with h|h
  ·by_cases h2:n / 10<10
   ·rw[dH h2]at h;rw[List.mem_singleton.1 h];exact key _ h2
   ·rw[dL h2,dH (by omega)]at h;rcases List.mem_append.1 h with h|h
    ·rw[List.mem_singleton.1 h];exact key _ (by omega)
    ·rw[List.mem_singleton.1 h];exact key _ (by omega)
  ·rw[List.mem_singleton.1 h];exact key _ (by omega)
theorem JZ {n:Nat} (h2:2≤n) (hn:n≤15):oH (Lib.decDigits n)=(n:Int):=by
 rcases(show n=2∨n=3∨n=4∨n=5∨n=6∨n=7∨n=8∨n=9∨n=10∨n=11∨n=12∨n=13∨n=14∨n=15 by omega)with rfl|rfl|rfl|rfl|rfl|rfl|rfl|rfl|rfl|rfl|rfl|rfl|rfl|rfl
 all_goals first
  |(rw[dH (by omega)];rfl)
  |(rw[dL (by omega),dH (by omega)];rfl)
theorem tV (c:UInt8) (r:List UInt8):Lib.hasPrefix (c::r) [c]=true:=by simp[Lib.hasPrefix]
theorem LU {c x:UInt8} {r:List UInt8} (h:c≠x):Lib.hasPrefix (c::r) [x]=false:=by unfold Lib.hasPrefix;simp[List.isPrefixOf];exact fun e=>h e.symm
def UM (x:UInt8) (t:List UInt8):Prop:=∀c r,t=c::r→c≠x
theorem pX {k:Nat} {n:Int} (h0:0≤n) (h1:n≤15) {t:List UInt8} (hD:wO t) (hH:UM (GT k) t):kX k (cR (GT k) n++t)=(t,n):=by
 by_cases hz:n=0
 ·subst hz;rw[xY,List.nil_append];have:Lib.hasPrefix t [GT k]=false:=by
   cases t with
   |nil=>rfl
   |cons c r=>exact LU (hH c r rfl)
  unfold kX;rw[if_neg (by rw[this];simp)]
 ·by_cases ho:n=1
  ·subst ho;rw[BI];unfold kX;rw[List.singleton_append,if_pos (tV _ _)];have e:bV t=[]:=fA (d:=[]) (fun _ h=>by cases h) hD
   show((t.drop (bV t).length),oH (bV t))=_;rw[e];rfl
  ·obtain⟨m,rfl⟩:∃m:Nat,n=(m:Int):=⟨n.toNat,by omega⟩
   rw[iR (by omega)];unfold kX;rw[List.cons_append,if_pos (tV _ _)];have e:bV (Lib.decDigits m++t)=Lib.decDigits m:=fA (iE m (by omega)) hD
   show(((Lib.decDigits m++t).drop (bV (Lib.decDigits m++t)).length),oH (bV (Lib.decDigits m++t)))=_;rw[e,JZ (by omega) (by omega)];simp
theorem cN {x:UInt8} {n:Int} {t:List UInt8} {P:UInt8→Prop} (hx:P x) (ht:∀c r,t=c::r→P c):∀c r,cR x n++t=c::r→P c:=fun c r h=>by
 by_cases h1:1≤n
 ·obtain⟨q,hq⟩:=lI (c:=x) h1;rw[hq,List.cons_append,List.cons.injEq]at h;rw[←h.1];exact hx
 ·rw[pW (by omega),List.nil_append]at h;exact ht c r h
theorem LS {m:M} (h:M.ok m=true):gE (cX m)=m:=by
 obtain⟨x1,x2,y1,y2,d1,d2,e1,e2⟩:=M.ok_iff.1 h;have a4:∀(P:UInt8→Prop),(∀c r,([]:List UInt8)=c::r→P c):=fun P c r e=>by cases e
 have t3:∀(P:UInt8→Prop),P 101→∀c r,cR 101 m.e++[]=c::r→P c:=fun P h1=>cN h1 (a4 P);have t2:∀(P:UInt8→Prop),P 101→P 100→∀c r,cR 100 m.d++(cR 101 m.e++[])=c::r→P c:=fun P h1 h2=>cN h2 (t3 P h1)
 have t1:∀(P:UInt8→Prop),P 101→P 100→P 121→∀c r,cR 121 m.y++(cR 100 m.d++(cR 101 m.e++[]))=c::r→P c:=fun P h1 h2 h3=>cN h3 (t2 P h1 h2);have e:cX m=cR 120 m.x++(cR 121 m.y++(cR 100 m.d++(cR 101 m.e++[]))):=by rw[iH];simp
 have g0:kX 0 (cX m)=(cR 121 m.y++(cR 100 m.d++(cR 101 m.e++[])),m.x):=by rw[e];exact pX (k:=0) x1 x2 (t1 (fun c=>jH c=false) (by decide) (by decide) (by decide)) (t1 (fun c=>c≠120) (by decide) (by decide) (by decide))
 have g1:kX 1 (cR 121 m.y++(cR 100 m.d++(cR 101 m.e++[])))=(cR 100 m.d++(cR 101 m.e++[]),m.y):=pX (k:=1) y1 y2 (t2 (fun c=>jH c=false) (by decide) (by decide)) (t2 (fun c=>c≠121) (by decide) (by decide));have g2:kX 2 (cR 100 m.d++(cR 101 m.e++[]))=(cR 101 m.e++[],m.d):=pX (k:=2) d1 d2 (t3 (fun c=>jH c=false) (by decide)) (t3 (fun c=>c≠100) (by decide))
 have g3:kX 3 (cR 101 m.e++[])=([],m.e):=pX (k:=3) e1 e2 (a4 (fun c=>jH c=false)) (a4 (fun c=>c≠101));have l1:BJ (cX m) 1=cR 121 m.y++(cR 100 m.d++(cR 101 m.e++[])):=by show(kX 0 (cX m)).1=_;rw[g0]
 have l2:BJ (cX m) 2=cR 100 m.d++(cR 101 m.e++[]):=by show(kX 1 (BJ (cX m) 1)).1=_;rw[l1,g1]
 have l3:BJ (cX m) 3=cR 101 m.e++[]:=by show(kX 2 (BJ (cX m) 2)).1=_;rw[l2,g2]
 unfold gE wR;rw[l1,l2,l3,g1,g2,g3];show(⟨(kX 0 (cX m)).2,_,_,_⟩:M)=m
 rw[g0]
theorem LT {m:M} (h:M.ok m=true):gE (eN m)=m:=by
 by_cases h0:cX m=[]
 ·rw[jQ h h0];have e:m=⟨0,0,0,0⟩:=by
   by_cases hz:m.x=0∧m.y=0∧m.d=0∧m.e=0
   ·rcases m with⟨x,y,d,e⟩
    obtain⟨rfl,rfl,rfl,rfl⟩:=hz;rfl
   ·obtain⟨c,r,e,_⟩:=jP h hz;rw[e]at h0;cases h0
  rw[e];have e2:gE [49]=⟨0,0,0,0⟩:=by kernel_rfl
  exact e2
 ·rw[fJ h h0];exact LS h
def kV (s:List UInt8):M×Bool:=if s.length≤40∧eN (gE s)=s then(gE s,true)else(⟨0,0,0,0⟩,false)
theorem GD {s:List UInt8} (h:eN (gE s)=s):M.ok (gE s)=true:=by
 cases hk:M.ok (gE s)
 ·rw[vL hk]at h;subst h;exact absurd hk (by decide+kernel)
 ·rfl
theorem ME {s:List UInt8} {g:M} (hg:∀m,M.ok m=true→eN m=s→g=m):kV s=if s.length≤40∧(M.ok g=true∧eN g=s)then(g,true)else(⟨0,0,0,0⟩,false):=by
 unfold kV;by_cases h:eN (gE s)=s
 ·have hk:=GD h;have e:g=gE s:=hg _ hk h
  subst e;by_cases hl:s.length≤40
  ·rw[if_pos ⟨hl,h⟩,if_pos ⟨hl,hk,h⟩]
  ·rw[if_neg (fun q=>hl q.1),if_neg (fun q=>hl q.1)]
 ·rw[if_neg (fun q=>h q.2),if_neg (fun q=>h ?_)];rw[←q.2.2,LT q.2.1]
end Go.Proofs.YtkcmamepoplcdaaGreatDoor
