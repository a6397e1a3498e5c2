/-
  What the model's sum of two rows of terms returns: they are merged, the greater term first.
-/
import Derived.Test.YtkcmamepoplcdaaGreatDoorVac
import Derived.Deep.AppendLies
import Derived.Lib.Strings
import Derived.Lib.AtoiAll
import Derived.Lib.AtoiTie
set_option maxHeartbeats 8000000
set_option maxRecDepth 100000
namespace Go.Proofs.YtkcmamepoplcdaaGreatDoor
open Go.RowKit
set_option linter.unusedVariables false
def T.cells (t:T):List Value:=[.int .i64 t.c,.int .i64 t.m.x,.int .i64 t.m.y,.int .i64 t.m.d,.int .i64 t.m.e]
def aG:List T→List Value
 |[]=>[]
 |t::r=>t.cells++aG r
theorem bE (a b:List T):aG (a++b)=aG a++aG b:=by
 induction a with
 |nil=>rfl
 |cons t r ih=>simp[aG,ih,List.append_assoc]
theorem aZ (a:List T):(aG a).length=a.length*5:=by
 induction a with
 |nil=>rfl
 |cons t r ih=>simp[aG,T.cells,ih];omega
theorem cK (t:T):aG [t]=[.int .i64 t.c,.int .i64 t.m.x,.int .i64 t.m.y,.int .i64 t.m.d,.int .i64 t.m.e]:=by simp[aG,T.cells]
def eZ (f:Nat→T) (la:Nat) (g:Nat→T) (lb:Nat):Nat→Nat→Nat→List T
 |0,_,_=>[]
 |u+1,i,k=>
  if i<la∧k<lb then
   if 0<M.ord 1 (f i).m (g k).m then f i::eZ f la g lb u (i+1) k
   else if M.ord 1 (f i).m (g k).m<0 then g k::eZ f la g lb u i (k+1)
   else if((f i).c+(g k).c)%101≠0 then⟨((f i).c+(g k).c)%101,(f i).m⟩::eZ f la g lb u (i+1) (k+1)
   else eZ f la g lb u (i+1) (k+1)
  else if i<la then f i::eZ f la g lb u (i+1) k
  else if k<lb then g k::eZ f la g lb u i (k+1)
  else[]
theorem jA (f:Nat→T) (la:Nat) (g:Nat→T) (lb:Nat):∀(u v i k:Nat),la-i+(lb-k)≤u→la-i+(lb-k)≤v→eZ f la g lb u i k=eZ f la g lb v i k
 |0,0,_,_,_,_=>rfl
 |0,v+1,i,k,h,_=>by simp only[eZ];rw[if_neg (by omega),if_neg (by omega),if_neg (by omega)]
 |u+1,0,i,k,_,h=>by simp only[eZ];rw[if_neg (by omega),if_neg (by omega),if_neg (by omega)]
 |u+1,v+1,i,k,h,h'=>by
  simp only[eZ];by_cases h1:i<la∧k<lb
  ·rw[if_pos h1,if_pos h1,jA f la g lb u v (i+1) k (by omega) (by omega),jA f la g lb u v i (k+1) (by omega) (by omega),jA f la g lb u v (i+1) (k+1) (by omega) (by omega)]
  ·rw[if_neg h1,if_neg h1];by_cases h2:i<la
   ·rw[if_pos h2,if_pos h2,jA f la g lb u v (i+1) k (by omega) (by omega)]
   ·rw[if_neg h2,if_neg h2];by_cases h3:k<lb
    ·rw[if_pos h3,if_pos h3,jA f la g lb u v i (k+1) (by omega) (by omega)]
    ·rw[if_neg h3,if_neg h3]
def dF (f:Nat→T) (la:Nat) (g:Nat→T) (lb:Nat) (i k:Nat):List T:=eZ f la g lb (la-i+(lb-k)) i k
theorem vV {f:Nat→T} {la:Nat} {g:Nat→T} {lb i k:Nat} (hi:i<la) (h:¬k<lb∨0<M.ord 1 (f i).m (g k).m):dF f la g lb i k=f i::dF f la g lb (i+1) k:=by
 unfold dF;rw[show la-i+(lb-k)=(la-(i+1)+(lb-k))+1 by omega];simp only[eZ];by_cases hk:k<lb
 ·rw[if_pos ⟨hi,hk⟩,if_pos (h.resolve_left (fun h=>h hk))]
 ·rw[if_neg (fun h=>hk h.2),if_pos hi]
theorem CB {f:Nat→T} {la:Nat} {g:Nat→T} {lb i k:Nat} (hk:k<lb) (h:¬i<la∨M.ord 1 (f i).m (g k).m<0):dF f la g lb i k=g k::dF f la g lb i (k+1):=by
 unfold dF;rw[show la-i+(lb-k)=(la-i+(lb-(k+1)))+1 by omega];simp only[eZ];by_cases hi:i<la
 ·have h':=h.resolve_left (fun h=>h hi);rw[if_pos ⟨hi,hk⟩,if_neg (by omega),if_pos h']
 ·rw[if_neg (fun h=>hi h.1),if_neg hi,if_pos hk]
theorem CA {f:Nat→T} {la:Nat} {g:Nat→T} {lb i k:Nat} (hi:i<la) (hk:k<lb) (h:M.ord 1 (f i).m (g k).m=0):dF f la g lb i k=(if((f i).c+(g k).c)%101≠0 then[⟨((f i).c+(g k).c)%101,(f i).m⟩]else[])++dF f la g lb (i+1) (k+1):=by
 unfold dF;rw[show la-i+(lb-k)=(la-i+(lb-k)-1)+1 by omega];simp only[eZ];rw[if_pos ⟨hi,hk⟩,if_neg (by omega),if_neg (by omega),jA f la g lb (la-i+(lb-k)-1) (la-(i+1)+(lb-(k+1))) (i+1) (k+1) (by omega) (by omega)];by_cases hc:((f i).c+(g k).c)%101≠0
 ·rw[if_pos hc,if_pos hc];rfl
 ·rw[if_neg hc,if_neg hc];rfl
theorem xY {f:Nat→T} {la:Nat} {g:Nat→T} {lb i k:Nat} (hi:¬i<la) (hk:¬k<lb):dF f la g lb i k=[]:=by unfold dF;rw[show la-i+(lb-k)=0 by omega];rfl
theorem nW (f:Nat→T) (la:Nat) (g:Nat→T) (lb:Nat):∀(u i k:Nat),(eZ f la g lb u i k).length≤u
 |0,_,_=>by simp[eZ]
 |u+1,i,k=>by
  have a1:=nW f la g lb u (i+1) k;have a2:=nW f la g lb u i (k+1)
  have a3:=nW f la g lb u (i+1) (k+1);simp only[eZ]
  repeat' split
  all_goals simp
  all_goals omega
theorem lU (f:Nat→T) (la:Nat) (g:Nat→T) (lb i k:Nat):(dF f la g lb i k).length≤la-i+(lb-k):=nW _ _ _ _ _ _ _
theorem dE (t:T):∀u∈aG [t],u.oneCell'=true:=by rw[cK];intro u hu;simp only[List.mem_cons,List.not_mem_nil,or_false]at hu;rcases hu with rfl|rfl|rfl|rfl|rfl<;>rfl
theorem dG {w w':World} (h:Below w.heap.size w w'):w.grownBy w' none:=⟨h.os,h.tape,h.output,h.size,fun k hk _=>h.block k hk⟩
theorem aR {w w':World} {base:Nat} {e:TypeId} {size:Nat} {v:Value} {n:Nat} {xs:List Value} (h:w.ownsRow base e size v n xs) (hb:Below w.heap.size w w'):w'.ownsRow base e size v n xs:=by
 refine h.kept (dG hb) ?_;cases hv:v.ownBlock with
 |none=>exact .inl rfl
 |some k=>exact .inr (by simp)
theorem pO (w:World) (a b:Option Addr) (la ca lb cb:Nat) (f g:Nat→T) (ha:Rd w a la ca f) (hb:Rd w b lb cb g) (hl:la+lb≤1000000) (hcf:∀i,i<la→0≤(f i).c∧(f i).c≤100) (hcg:∀i,i<lb→0≤(g i).c∧(g i).c≤100):Calls Tryz.prog 100 #[.slice a la ca,.slice b lb cb] w fun r w'=>∃v,r= .returned v∧Below w.heap.size w w'∧w'.ownsRow w.heap.size 79 5 v (dF f la g lb 0 0).length (aG (dF f la g lb 0 0)):=by
 obtain⟨i0,hi0,hz0,hz1,hz2⟩:=info_parts uP;obtain⟨a1,a2,a3⟩:=ha;obtain⟨b1,b2,b3⟩:=hb;have hla:(la:Int)≤1000000:=by omega
 have hlb:(lb:Int)≤1000000:=by omega
 go_enter Tryz.func100,Tryz.ntmps100;go_wp2;go_loopw [5,6,7] (fun v ii kk wr=>∃(i k:Nat) (out:List T),i≤la∧k≤lb∧ii= .int .i64 i∧kk= .int .i64 k∧Below w.heap.size w wr∧wr.ownsRow w.heap.size 79 5 v out.length (aG out)∧out.length≤i+k∧Hid (out++dF f la g lb i k=dF f la g lb 0 0)) (fun _ ii kk _=>(la-(intOf ii).toNat)+(lb-(intOf kk).toNat));case atStart=>exact⟨0,0,[],iK _,iK _,rfl,rfl,(aD _ _).alloc (Nat.le_refl _) _,World.ownsRow_lit _ _ _ (Nat.le_refl _) (iK _) rfl,iK _,rfl⟩
 case round=>
  obtain⟨i,k,out,hi,hk,rfl,rfl,hB,hown,hol,HL⟩:=hrel;by_cases hia:i<la
  ·rcases a3 with h0|⟨ba,oa,rfl,hal,hac⟩
   ·omega
   have hin:(i:Int)<(la:Int):=by omega
   by_cases hkb:k<lb
   ·rcases b3 with h0|⟨bb,ob,rfl,hbl,hbc⟩
    ·omega
    have hkn:(k:Int)<(lb:Int):=by omega
    have hba:ba<wr.heap.size:=eH hal hB.size;have hbb:bb<wr.heap.size:=eH hbl hB.size
    have ne:=dX.there wr;have hca:=(hac i hia).below hB hal
    have hcb:=(hbc k hkb).below hB hbl;obtain⟨PO,PP⟩:=hcf i hia;obtain⟨cg1,cg2⟩:=hcg k hkb;have ke:((k:Int)==(lb:Int))=false:=by simp;omega
    have ie:((i:Int)==(la:Int))=false:=by simp;omega
    have s0:∀u:dX wr,u.1.cell? ⟨ba,oa+i*5,none⟩=some (.int .i64 (f i).c):=fun u=>(u.cell hba).trans hca.1;have s1:∀u:dX wr,u.1.cell? ⟨ba,oa+i*5+1,none⟩=some (.int .i64 (f i).m.x):=fun u=>(u.cell hba).trans hca.2.1
    have s2:∀u:dX wr,u.1.cell? ⟨ba,oa+i*5+2,none⟩=some (.int .i64 (f i).m.y):=fun u=>(u.cell hba).trans hca.2.2.1;have s3:∀u:dX wr,u.1.cell? ⟨ba,oa+i*5+3,none⟩=some (.int .i64 (f i).m.d):=fun u=>(u.cell hba).trans hca.2.2.2.1
    have s4:∀u:dX wr,u.1.cell? ⟨ba,oa+i*5+4,none⟩=some (.int .i64 (f i).m.e):=fun u=>(u.cell hba).trans hca.2.2.2.2;have t0:∀u:dX wr,u.1.cell? ⟨bb,ob+k*5,none⟩=some (.int .i64 (g k).c):=fun u=>(u.cell hbb).trans hcb.1
    have t1:∀u:dX wr,u.1.cell? ⟨bb,ob+k*5+1,none⟩=some (.int .i64 (g k).m.x):=fun u=>(u.cell hbb).trans hcb.2.1;have t2:∀u:dX wr,u.1.cell? ⟨bb,ob+k*5+2,none⟩=some (.int .i64 (g k).m.y):=fun u=>(u.cell hbb).trans hcb.2.2.1
    have t3:∀u:dX wr,u.1.cell? ⟨bb,ob+k*5+3,none⟩=some (.int .i64 (g k).m.d):=fun u=>(u.cell hbb).trans hcb.2.2.2.1;have t4:∀u:dX wr,u.1.cell? ⟨bb,ob+k*5+4,none⟩=some (.int .i64 (g k).m.e):=fun u=>(u.cell hbb).trans hcb.2.2.2.2
    have HOW:=aA hown;have HCA:=aA hca
    have HCB:=aA hcb;clear hac hbc hcf hcg hown hca hcb;go_wp2_with fail;refine aU (by kernel_rfl) (by kernel_rfl) ?_;repeat(go_big_quiet_step (first|(go_at_call 61;exact cE (KE _ _ _ _ _ _ _ _ _))))
    refine wpQuiet_nil ?_;rintro wu ⟨x,hx⟩;have hu:Below wr.heap.size wr wu:=by rw[hx];exact x.2
    clear hx x;have hBu:=hB.trans (hu.mono hB.size)
    have hownu:=aR HOW.out hu;obtain⟨x0,x1,x2,x3,x4⟩:=HCA.out.below hu hba;obtain⟨y0,y1,y2,y3,y4⟩:=HCB.out.below hu hbb;clear s0 s1 s2 s3 s4 t0 t1 t2 t3 t4 HOW HCA HCB hB hu;by_cases hq:0<M.ord 1 (f i).m (g k).m
    ·have dq:decide (0<M.ord 1 ⟨(f i).m.x,(f i).m.y,(f i).m.d,(f i).m.e⟩ ⟨(g k).m.x,(g k).m.y,(g k).m.d,(g k).m.e⟩)=true:=decide_eq_true hq;go_wp2_with (at_builtin;refine wpList_append_lies _ rfl (.tmp 85) (.tmp 90) 22 rfl w.heap.size 79 i0 _ 5 40 Tryz.underlying22 hi0 hz0 hz1 hz2 rfl (by omega) _ out.length (aG out) rfl (hownu.alloc _) ⟨wu.heap.size,0,none⟩ 1 1 (aG [f i]) rfl (by rw[aZ];rfl) (by rw[cK];exact World.news_of_block (heap_alloc_new wu _)) (dE _) (by omega) (by unfold maxLen;omega) (by omega) (by have:=hBu.size;simp;omega) _ rfl ?_;intro g0 cap0 w1 hown1 hgrow hat hlt1;have HB:=aA ((hBu.alloc hBu.size _).grown hgrow (iS hBu.size (by simp)) (fun k hk=>(hownu.lt k hk).1));have HO:=aA hown1;clear hown1 hgrow hat hlt1 hownu);go_roundw
     case rel=>
      refine⟨i+1,k,out++[f i],by omega,by omega,by go_num,by go_num,HB.out,?_,by simp;omega,?_⟩
      ·rw[bE,List.length_append];exact HO.out
      ·show out++[f i]++dF f la g lb (i+1) (k)=_;rw[←HL.out,vV hia (.inr hq),List.append_assoc];rfl
     case measure=>simp[intOf];omega
    ·have dq:decide (0<M.ord 1 ⟨(f i).m.x,(f i).m.y,(f i).m.d,(f i).m.e⟩ ⟨(g k).m.x,(g k).m.y,(g k).m.d,(g k).m.e⟩)=false:=decide_eq_false hq;by_cases hr:M.ord 1 (f i).m (g k).m<0
     ·have dr:decide (M.ord 1 ⟨(f i).m.x,(f i).m.y,(f i).m.d,(f i).m.e⟩ ⟨(g k).m.x,(g k).m.y,(g k).m.d,(g k).m.e⟩<0)=true:=decide_eq_true hr;go_wp2_with (at_builtin;refine wpList_append_lies _ rfl (.tmp 103) (.tmp 108) 22 rfl w.heap.size 79 i0 _ 5 40 Tryz.underlying22 hi0 hz0 hz1 hz2 rfl (by omega) _ out.length (aG out) rfl (hownu.alloc _) ⟨wu.heap.size,0,none⟩ 1 1 (aG [g k]) rfl (by rw[aZ];rfl) (by rw[cK];exact World.news_of_block (heap_alloc_new wu _)) (dE _) (by omega) (by unfold maxLen;omega) (by omega) (by have:=hBu.size;simp;omega) _ rfl ?_;intro g0 cap0 w1 hown1 hgrow hat hlt1;have HB:=aA ((hBu.alloc hBu.size _).grown hgrow (iS hBu.size (by simp)) (fun k hk=>(hownu.lt k hk).1));have HO:=aA hown1;clear hown1 hgrow hat hlt1 hownu);go_roundw
      case rel=>
       refine⟨i,k+1,out++[g k],by omega,by omega,by go_num,by go_num,HB.out,?_,by simp;omega,?_⟩
       ·rw[bE,List.length_append];exact HO.out
       ·show out++[g k]++dF f la g lb (i) (k+1)=_;rw[←HL.out,CB hkb (.inr hr),List.append_assoc];rfl
      case measure=>simp[intOf];omega
     ·have dr:decide (M.ord 1 ⟨(f i).m.x,(f i).m.y,(f i).m.d,(f i).m.e⟩ ⟨(g k).m.x,(g k).m.y,(g k).m.d,(g k).m.e⟩<0)=false:=decide_eq_false hr;have h0:M.ord 1 (f i).m (g k).m=0:=by omega
      have ne2:=dX.there wu;have bau:ba<wu.heap.size:=eH hal hBu.size
      have bbu:bb<wu.heap.size:=eH hbl hBu.size;have e0:∀u:dX wu,u.1.cell? ⟨ba,oa+i*5,none⟩=some (.int .i64 (f i).c):=fun u=>(u.cell bau).trans x0
      have e1:∀u:dX wu,u.1.cell? ⟨bb,ob+k*5,none⟩=some (.int .i64 (g k).c):=fun u=>(u.cell bbu).trans y0;have HX:=aA (show fM wu ba (oa+i*5) (f i)from⟨x0,x1,x2,x3,x4⟩)
      have HOW:=aA hownu;have H0:=aA h0
      have h0':M.ord 1 ⟨(f i).m.x,(f i).m.y,(f i).m.d,(f i).m.e⟩ ⟨(g k).m.x,(g k).m.y,(g k).m.d,(g k).m.e⟩=0:=h0;clear x0 x1 x2 x3 x4 y0 y1 y2 y3 y4 hownu h0 hq hr dq dr;go_wp2_with fail;refine aU (by kernel_rfl) (by kernel_rfl) ?_;repeat(go_big_quiet_step (fail))
      refine wpQuiet_nil ?_;rintro wv ⟨x,hx⟩;have hv:Below wu.heap.size wu wv:=by rw[hx];exact x.2
      clear hx x;have hBv:=hBu.trans (hv.mono hBu.size)
      have hownv:=aR HOW.out hv;obtain⟨z0,z1,z2,z3,z4⟩:=HX.out.below hv bau;clear e0 e1 HX HOW hBu hv;by_cases hc0:((f i).c+(g k).c)%101=0
      ·have HC:=aA hc0;have hcb:(((f i).c+(g k).c)%101 !=0)=false:=by simp[hc0]
       have HO:=aA hownv;clear hc0 hownv;go_wp2;go_roundw
       case rel=>
        refine⟨i+1,k+1,out,by omega,by omega,by go_num,by go_num,hBv,HO.out,by omega,?_⟩;show out++dF f la g lb (i+1) (k+1)=_
        rw[←HL.out,CA hia hkb H0.out,if_neg (fun h=>h HC.out)];rfl
       case measure=>simp[intOf];omega
      ·have HC:=aA hc0;have hcb:(((f i).c+(g k).c)%101 !=0)=true:=by simp[hc0]
       clear hc0;go_wp2_with (at_builtin;refine wpList_append_lies _ rfl (.tmp 56) (.tmp 64) 22 rfl w.heap.size 79 i0 _ 5 40 Tryz.underlying22 hi0 hz0 hz1 hz2 rfl (by omega) _ out.length (aG out) rfl (hownv.alloc _) ⟨wv.heap.size,0,none⟩ 1 1 (aG [⟨((f i).c+(g k).c)%101,(f i).m⟩]) rfl (by rw[aZ];rfl) (by rw[cK];exact World.news_of_block (heap_alloc_new wv _)) (dE _) (by omega) (by unfold maxLen;omega) (by omega) (by have:=hBv.size;simp;omega) _ rfl ?_;intro g0 cap0 w1 hown1 hgrow hat hlt1;have HB:=aA ((hBv.alloc hBv.size _).grown hgrow (iS hBv.size (by simp)) (fun k hk=>(hownv.lt k hk).1));have HO:=aA hown1;clear hown1 hgrow hat hlt1 hownv);go_roundw
       case rel=>
        refine⟨i+1,k+1,out++[⟨((f i).c+(g k).c)%101,(f i).m⟩],by omega,by omega,by go_num,by go_num,HB.out,?_,by simp;omega,?_⟩
        ·rw[bE,List.length_append];exact HO.out
        ·show out++[⟨((f i).c+(g k).c)%101,(f i).m⟩]++dF f la g lb (i+1) (k+1)=_;rw[←HL.out,CA hia hkb H0.out,if_pos HC.out,List.append_assoc]
       case measure=>simp[intOf];omega
   ·have hkk:k=lb:=by omega
    obtain⟨x0,x1,x2,x3,x4⟩:=(hac i hia).below hB hal;have ke:((k:Int)==(lb:Int))=true:=by simp;omega
    have kl:¬(k:Int)<(lb:Int):=by omega
    clear hac hcf hcg hkk;go_wp2_with (at_builtin;refine wpList_append_lies _ rfl (.tmp 85) (.tmp 90) 22 rfl w.heap.size 79 i0 _ 5 40 Tryz.underlying22 hi0 hz0 hz1 hz2 rfl (by omega) _ out.length (aG out) rfl (hown.alloc _) ⟨wr.heap.size,0,none⟩ 1 1 (aG [f i]) rfl (by rw[aZ];rfl) (by rw[cK];exact World.news_of_block (heap_alloc_new wr _)) (dE _) (by omega) (by unfold maxLen;omega) (by omega) (by have:=hB.size;simp;omega) _ rfl ?_;intro g0 cap0 w1 hown1 hgrow hat hlt1;have HB:=aA ((hB.alloc hB.size _).grown hgrow (iS hB.size (by simp)) (fun k hk=>(hown.lt k hk).1));have HO:=aA hown1;clear hown1 hgrow hat hlt1 hown);go_roundw
    case rel=>
     refine⟨i+1,k,out++[f i],by omega,by omega,by go_num,by go_num,HB.out,?_,by simp;omega,?_⟩
     ·rw[bE,List.length_append];exact HO.out
     ·show out++[f i]++dF f la g lb (i+1) (k)=_;rw[←HL.out,vV hia (.inl hkb),List.append_assoc];rfl
    case measure=>simp[intOf];omega
  ·have il:¬(i:Int)<(la:Int):=by omega
   have ie:((i:Int)==(la:Int))=true:=by simp;omega
   by_cases hkb:k<lb
   ·rcases b3 with h0|⟨bb,ob,rfl,hbl,hbc⟩
    ·omega
    have hkn:(k:Int)<(lb:Int):=by omega
    have ke:((k:Int)==(lb:Int))=false:=by simp;omega
    obtain⟨y0,y1,y2,y3,y4⟩:=(hbc k hkb).below hB hbl;clear hbc hcf hcg;go_wp2_with (at_builtin;refine wpList_append_lies _ rfl (.tmp 103) (.tmp 108) 22 rfl w.heap.size 79 i0 _ 5 40 Tryz.underlying22 hi0 hz0 hz1 hz2 rfl (by omega) _ out.length (aG out) rfl (hown.alloc _) ⟨wr.heap.size,0,none⟩ 1 1 (aG [g k]) rfl (by rw[aZ];rfl) (by rw[cK];exact World.news_of_block (heap_alloc_new wr _)) (dE _) (by omega) (by unfold maxLen;omega) (by omega) (by have:=hB.size;simp;omega) _ rfl ?_;intro g0 cap0 w1 hown1 hgrow hat hlt1;have HB:=aA ((hB.alloc hB.size _).grown hgrow (iS hB.size (by simp)) (fun k hk=>(hown.lt k hk).1));have HO:=aA hown1;clear hown1 hgrow hat hlt1 hown);go_roundw
    case rel=>
     refine⟨i,k+1,out++[g k],by omega,by omega,by go_num,by go_num,HB.out,?_,by simp;omega,?_⟩
     ·rw[bE,List.length_append];exact HO.out
     ·show out++[g k]++dF f la g lb (i) (k+1)=_;rw[←HL.out,CB hkb (.inl hia),List.append_assoc];rfl
    case measure=>simp[intOf];omega
   ·have kl:¬(k:Int)<(lb:Int):=by omega
    have HO:=aA hown;clear hown hcf hcg;go_wp2;go_ret;refine⟨_,rfl,hB,?_⟩;rw[←HL.out,xY hia hkb,List.append_nil];exact HO.out
def lf (L:List T) (i:Nat):T:=L.getD i ⟨0,⟨0,0,0,0⟩⟩
theorem uD (L:List T):∀j,j<L.length*5→(aG L)[j]? =some (cf (lf L) j):=by
 induction L with
 |nil=>intro j h;simp at h
 |cons t r ih=>
  intro j h;have e:aG (t::r)=t.cells++aG r:=rfl
  rw[e];by_cases hj:j<5
  ·rw[List.getElem?_append_left (by simp[T.cells];omega)];have h5:j=0∨j=1∨j=2∨j=3∨j=4:=by omega
   rcases h5 with rfl|rfl|rfl|rfl|rfl<;>rfl
  ·rw[List.getElem?_append_right (by simp[T.cells];omega),show T.cells t=[.int .i64 t.c,.int .i64 t.m.x,.int .i64 t.m.y,.int .i64 t.m.d,.int .i64 t.m.e]from rfl];simp only[List.length_cons,List.length_nil];rw[ih (j-5) (by simp at h;omega)];obtain⟨q,rfl⟩:∃q,j=q+5:=⟨j-5,by omega⟩
   simp only[Nat.add_sub_cancel];unfold cf;rw[show(q+5)%5=q%5 by omega,show(q+5) / 5=q / 5+1 by omega];rfl
def iT (lo:Nat) (w:World) (a:Option Addr) (cap:Nat) (L:List T):Prop:=
 Rd w a L.length cap (lf L)∧Wr w a L.length (lf L)∧(L.length=0∨∃g off,a=some ⟨g,off,none⟩∧lo≤g)
theorem aJ {w:World} {lo:Nat} {v:Value} {L:List T} (h:w.ownsRow lo 79 5 v L.length (aG L)) (hl:L.length*40≤140737488351232):∃a cap,v= .slice a L.length cap∧iT lo w a cap L:=by
 rcases h.2 with⟨hv,h0⟩|⟨g,cap,cur,hv,hlo,hg,hn,hm,hs,ht⟩
 ·refine⟨none,0,by rw[hv,h0],⟨by omega,hl,.inl h0⟩,.inl h0,.inl h0⟩
 ·have hat:∀j,j<L.length*5→cur[j]? =some (cf (lf L) j):=by intro j hj;rw[←uD L j hj,←ht,List.getElem?_take_of_lt hj];simp
  have hc5:L.length*5≤cap*5:=by omega
  have hrow:w.rowIs g 79 (cap*5) (fun j=>cur.getD j undef):=⟨cur,hg,hs,fun j hj=>by
   have hjs:j<cur.size:=by omega
   show cur[j]? =some (cur.getD j undef)
   rw[Array.getD_eq_getD_getElem?,Array.getElem?_eq_getElem hjs]
   rfl⟩
  have hcell:∀j,j<L.length*5→w.cell? ⟨g,j,none⟩=some (cf (lf L) j):=by intro j hj;rw[hrow.cell (by omega),Array.getD_eq_getD_getElem?,hat j hj];rfl
  refine⟨some ⟨g,0,none⟩,cap,hv,⟨hn,hl,.inr ⟨g,0,rfl,hrow.lt,fun i hi=>?_⟩⟩,.inr ⟨g,0,cap*5,_,rfl,hrow,by omega,fun j hj=>?_⟩,.inr ⟨g,0,rfl,hlo⟩⟩
  ·rw[Nat.zero_add];exact⟨by rw[hcell _ (by omega),SS],by rw[hcell _ (by omega),PO],by rw[hcell _ (by omega),PP],by rw[hcell _ (by omega),TA],by rw[hcell _ (by omega),TB]⟩
  ·rw[Nat.zero_add,Array.getD_eq_getD_getElem?,hat j hj];rfl
theorem Wr.below {w w':World} {a:Option Addr} {n:Nat} {f:Nat→T} (h:Wr w a n f) (hb:Below w.heap.size w w'):Wr w' a n f:=by
 rcases h with h0|⟨g,off,N,F,rfl,hR,hN,hF⟩
 ·exact .inl h0
 ·exact .inr ⟨g,off,N,F,rfl,hR.of_block (hb.block g hR.lt),hN,hF⟩
theorem iT.below {lo:Nat} {w w':World} {a:Option Addr} {cap:Nat} {L:List T} (h:iT lo w a cap L) (hb:Below w.heap.size w w'):iT lo w' a cap L:=⟨h.1.below hb,h.2.1.below hb,h.2.2⟩
theorem fM.same {w w':World} {b o:Nat} {t:T} (h:fM w b o t) (he:w'.heap[b]? =w.heap[b]?):fM w' b o t:=by obtain⟨h0,h1,h2,h3,h4⟩:=h;exact⟨(lM (w:=w) (a:=⟨b,o,none⟩) he).trans h0,(lM (w:=w) (a:=⟨b,o+1,none⟩) he).trans h1,(lM (w:=w) (a:=⟨b,o+2,none⟩) he).trans h2,(lM (w:=w) (a:=⟨b,o+3,none⟩) he).trans h3,(lM (w:=w) (a:=⟨b,o+4,none⟩) he).trans h4⟩
theorem Rd.grown {w w':World} {a:Option Addr} {n cap:Nat} {f:Nat→T} {row:Option Nat} (h:Rd w a n cap f) (hg:w.grownBy w' row) (hne:n=0∨∀b off,a=some ⟨b,off,none⟩→some b≠row):Rd w' a n cap f:=by
 obtain⟨h1,h2,h3⟩:=h;refine⟨h1,h2,?_⟩;rcases h3 with h0|⟨b,off,rfl,hlt,hc⟩
 ·exact .inl h0
 ·rcases hne with h0|hne
  ·exact .inl h0
  ·exact .inr ⟨b,off,rfl,eH hlt hg.size,fun i hi=>(hc i hi).same (hg.block b hlt (hne b off rfl))⟩
theorem bX {w:World} {base base':Nat} {e:TypeId} {size:Nat} {v:Value} {n:Nat} {xs:List Value} (h:w.ownsRow base e size v n xs) (hb:base'≤base):w.ownsRow base' e size v n xs:=by
 refine⟨h.1,?_⟩;rcases h.2 with h0|⟨g,cap,cur,hv,hlo,hr⟩
 ·exact .inl h0
 ·exact .inr ⟨g,cap,cur,hv,iS hb hlo,hr⟩
theorem DJ {n:Nat} {f:Nat→T} (h:aK n f=true):n≤400∧∀i,i<n→0≤(f i).c∧(f i).c≤100:=by
 simp only[aK,decide_eq_true_eq]at h;refine⟨h.1,fun i hi=>?_⟩;have:=h.2 i hi
 simp only[fO,Bool.and_eq_true,decide_eq_true_eq]at this;omega
def cR (f:Nat→T) (la:Nat) (g:Nat→T) (lb:Nat):List T×Bool:=
 if aK la f=true∧aK lb g=true∧(dF f la g lb 0 0).length≤400 then(dF f la g lb 0 0,true)else([],false)
theorem aS (w:World) (lo:Nat) (h:lo≤w.heap.size):(w.alloc (.cells #[] 79)).ownsRow lo 79 5 (.slice (some ⟨w.heap.size,0,none⟩) 0 0) 0 (aG []):=World.ownsRow_lit _ _ _ h (iK _) rfl
theorem DI (w:World) (a b:Option Addr) (la ca lb cb:Nat) (f g:Nat→T) (ha:Rd w a la ca f) (hb:Rd w b lb cb g):Calls Tryz.prog 69 #[.slice a la ca,.slice b lb cb] w fun r w'=>∃v,r= .returned (.tuple #[v,.bool (cR f la g lb).2])∧Below w.heap.size w w'∧w'.ownsRow w.heap.size 79 5 v (cR f la g lb).1.length (aG (cR f la g lb).1):=by
 cases hpa:aK la f
 ·have e1:cR f la g lb=([],false):=by simp[cR,hpa]
  rw[e1];have HA:=aA ha
  clear ha hb e1;go_enter Tryz.func69,Tryz.ntmps69;go_wp2_with fail;refine(bD _ _ _ _ f HA.out).mono ?_;rw[hpa];rintro r w1 ⟨rfl,h1⟩;go_wp2
  go_ret2
  exact⟨_,rfl,h1.alloc h1.size _,aS w1 _ h1.size⟩
 ·cases hpb:aK lb g
  ·have e1:cR f la g lb=([],false):=by simp[cR,hpb]
   rw[e1];have HA:=aA ha
   have HB:=aA hb;clear ha hb e1;go_enter Tryz.func69,Tryz.ntmps69;go_wp2_with fail;refine(bD _ _ _ _ f HA.out).mono ?_;rw[hpa];rintro r w1 ⟨rfl,h1⟩;go_wp2_with fail;refine(bD _ _ _ _ g (HB.out.below h1)).mono ?_;rw[hpb];rintro r w2 ⟨rfl,h2⟩;have h12:=aC h1 h2
   go_wp2
   go_ret2
   exact⟨_,rfl,h12.alloc h12.size _,aS w2 _ h12.size⟩
  ·obtain⟨l1,c1⟩:=DJ hpa;obtain⟨l2,c2⟩:=DJ hpb;have HA:=aA ha
   have HB:=aA hb;have HC1:=aA c1
   have HC2:=aA c2;have hlen:=lU f la g lb 0 0
   clear ha hb c1 c2;go_enter Tryz.func69,Tryz.ntmps69;go_wp2_with fail;refine(bD _ _ _ _ f HA.out).mono ?_;rw[hpa];rintro r w1 ⟨rfl,h1⟩;go_wp2_with fail;refine(bD _ _ _ _ g (HB.out.below h1)).mono ?_;rw[hpb];rintro r w2 ⟨rfl,h2⟩;have h12:=aC h1 h2
   go_wp2_with fail;refine(pO _ _ _ _ _ _ _ f g (HA.out.below h12) (HB.out.below h12) (by omega) HC1.out HC2.out).mono ?_;rintro r w3 ⟨v,rfl,h3,hown⟩;have h123:=aC h12 h3
   have hlow:=bX hown h12.size;obtain⟨a',cap',rfl,hout⟩:=aJ hlow (by omega);have HO:=aA hlow
   clear hown hlow hout;by_cases hle:(dF f la g lb 0 0).length≤400
   ·have e1:cR f la g lb=(dF f la g lb 0 0,true):=by simp[cR,hpa,hpb,hle]
    have E1:=aA e1;have hle':((dF f la g lb 0 0).length:Int)≤400:=by omega
    clear e1;go_wp2
    go_ret2
    rw[E1.out];exact⟨_,rfl,h123,HO.out⟩
   ·have e1:cR f la g lb=([],false):=by simp[cR,hle]
    have E1:=aA e1;have hle':(400:Int)<((dF f la g lb 0 0).length:Int):=by omega
    clear e1;go_wp2
    go_ret2
    rw[E1.out];exact⟨_,rfl,h123.alloc h123.size _,aS w3 _ h123.size⟩
def kC (c:UInt8):Bool:=decide (48≤c.toNat∧c.toNat≤57)
def cB (l:List UInt8):List UInt8:=l.takeWhile kC
def pF (d:List UInt8):Int:=match Lib.atoiAll d with| .ok v=>v|_=>1
def lP (k:Nat) (l:List UInt8):List UInt8×Int:=if Lib.hasPrefix l [JQ k]=true then((l.drop 1).drop (cB (l.drop 1)).length,pF (cB (l.drop 1)))else(l,0)
def CT (s:List UInt8):Nat→List UInt8
 |0=>s
 |k+1=>(lP k (CT s k)).1
def xT (s:List UInt8) (k:Nat):Int:=(lP k (CT s k)).2
def gR (s:List UInt8):M:=⟨xT s 0,xT s 1,xT s 2,xT s 3⟩
theorem iF (l:List UInt8):(cB l).length≤l.length:=(List.takeWhile_prefix _).length_le
theorem CU (s:List UInt8):∀k,(CT s k).length≤s.length
 |0=>Nat.le_refl _
 |k+1=>by
  have h:=CU s k;show(lP k (CT s k)).1.length≤_
  unfold lP;split
  ·simp;omega
  ·exact h
def xQ (t:List UInt8):Prop:=∀c r,t=c::r→kC c=false
theorem fN {d t:List UInt8} (hd:∀c∈d,kC c=true) (ht:xQ t):cB (d++t)=d:=by
 induction d with
 |nil=>
  cases t with
  |nil=>rfl
  |cons c r=>unfold cB;rw[List.nil_append,List.takeWhile_cons,ht c r rfl];rfl
 |cons c d ih=>
  unfold cB at ih⊢;rw[List.cons_append,List.takeWhile_cons,hd c (by simp)];simp only[if_true];rw[ih (fun x hx=>hd x (by simp[hx]))]
theorem iW:∀n,n≤100→∀c∈Lib.decDigits n,kC c=true:=fun n hn c hc=>by
 have key:∀k,k<10→kC (UInt8.ofNat (48+k))=true:=fun k hk=>by rcases(show k=0∨k=1∨k=2∨k=3∨k=4∨k=5∨k=6∨k=7∨k=8∨k=9 by omega)with rfl|rfl|rfl|rfl|rfl|rfl|rfl|rfl|rfl|rfl<;>decide
 by_cases h1:n<10
 ·rw[dW h1]at hc;rw[List.mem_singleton.1 hc];exact key n h1
 ·rw[eB h1]at hc;rcases List.mem_append.1 hc with h|h
  ·by_cases h2:n / 10<10
   ·rw[dW h2]at h;rw[List.mem_singleton.1 h];exact key _ h2
   ·rw[eB h2,dW (by omega)]at h;rcases List.mem_append.1 h with h|h
    ·rw[List.mem_singleton.1 h];exact key _ (by omega)
    ·rw[List.mem_singleton.1 h];exact key _ (by omega)
  ·rw[List.mem_singleton.1 h];exact key _ (by omega)
theorem LV {n:Nat} (h2:2≤n) (hn:n≤15):pF (Lib.decDigits n)=(n:Int):=by
 rcases(show n=2∨n=3∨n=4∨n=5∨n=6∨n=7∨n=8∨n=9∨n=10∨n=11∨n=12∨n=13∨n=14∨n=15 by omega)with rfl|rfl|rfl|rfl|rfl|rfl|rfl|rfl|rfl|rfl|rfl|rfl|rfl|rfl
 all_goals first
  |(rw[dW (by omega)];rfl)
  |(rw[eB (by omega),dW (by omega)];rfl)
theorem uO (c:UInt8) (r:List UInt8):Lib.hasPrefix (c::r) [c]=true:=by simp[Lib.hasPrefix]
theorem NT {c x:UInt8} {r:List UInt8} (h:c≠x):Lib.hasPrefix (c::r) [x]=false:=by unfold Lib.hasPrefix;simp[List.isPrefixOf];exact fun e=>h e.symm
def WO (x:UInt8) (t:List UInt8):Prop:=∀c r,t=c::r→c≠x
theorem qU {k:Nat} {n:Int} (h0:0≤n) (h1:n≤15) {t:List UInt8} (hD:xQ t) (hH:WO (JQ k) t):lP k (dB (JQ k) n++t)=(t,n):=by
 by_cases hz:n=0
 ·subst hz;rw[yZ,List.nil_append];have:Lib.hasPrefix t [JQ k]=false:=by
   cases t with
   |nil=>rfl
   |cons c r=>exact NT (hH c r rfl)
  unfold lP;rw[if_neg (by rw[this];simp)]
 ·by_cases ho:n=1
  ·subst ho;rw[CS];unfold lP;rw[List.singleton_append,if_pos (uO _ _)];have e:cB t=[]:=fN (d:=[]) (fun _ h=>by cases h) hD
   show((t.drop (cB t).length),pF (cB t))=_;rw[e];rfl
  ·obtain⟨m,rfl⟩:∃m:Nat,n=(m:Int):=⟨n.toNat,by omega⟩
   rw[jI (by omega)];unfold lP;rw[List.cons_append,if_pos (uO _ _)];have e:cB (Lib.decDigits m++t)=Lib.decDigits m:=fN (iW m (by omega)) hD
   show(((Lib.decDigits m++t).drop (cB (Lib.decDigits m++t)).length),pF (cB (Lib.decDigits m++t)))=_;rw[e,LV (by omega) (by omega)];simp
theorem cX {x:UInt8} {n:Int} {t:List UInt8} {P:UInt8→Prop} (hx:P x) (ht:∀c r,t=c::r→P c):∀c r,dB x n++t=c::r→P c:=fun c r h=>by
 by_cases h1:1≤n
 ·obtain⟨q,hq⟩:=mC (c:=x) h1;rw[hq,List.cons_append,List.cons.injEq]at h;rw[←h.1];exact hx
 ·rw[qT (by omega),List.nil_append]at h;exact ht c r h
theorem NR {m:M} (h:M.ok m=true):gR (dH m)=m:=by
 obtain⟨x1,x2,y1,y2,d1,d2,e1,e2⟩:=M.ok_iff.1 h;have a4:∀(P:UInt8→Prop),(∀c r,([]:List UInt8)=c::r→P c):=fun P c r e=>by cases e
 have t3:∀(P:UInt8→Prop),P 101→∀c r,dB 101 m.e++[]=c::r→P c:=fun P h1=>cX h1 (a4 P);have t2:∀(P:UInt8→Prop),P 101→P 100→∀c r,dB 100 m.d++(dB 101 m.e++[])=c::r→P c:=fun P h1 h2=>cX h2 (t3 P h1)
 have t1:∀(P:UInt8→Prop),P 101→P 100→P 121→∀c r,dB 121 m.y++(dB 100 m.d++(dB 101 m.e++[]))=c::r→P c:=fun P h1 h2 h3=>cX h3 (t2 P h1 h2);have e:dH m=dB 120 m.x++(dB 121 m.y++(dB 100 m.d++(dB 101 m.e++[]))):=by rw[iZ];simp
 have g0:lP 0 (dH m)=(dB 121 m.y++(dB 100 m.d++(dB 101 m.e++[])),m.x):=by rw[e];exact qU (k:=0) x1 x2 (t1 (fun c=>kC c=false) (by decide) (by decide) (by decide)) (t1 (fun c=>c≠120) (by decide) (by decide) (by decide))
 have g1:lP 1 (dB 121 m.y++(dB 100 m.d++(dB 101 m.e++[])))=(dB 100 m.d++(dB 101 m.e++[]),m.y):=qU (k:=1) y1 y2 (t2 (fun c=>kC c=false) (by decide) (by decide)) (t2 (fun c=>c≠121) (by decide) (by decide));have g2:lP 2 (dB 100 m.d++(dB 101 m.e++[]))=(dB 101 m.e++[],m.d):=qU (k:=2) d1 d2 (t3 (fun c=>kC c=false) (by decide)) (t3 (fun c=>c≠100) (by decide))
 have g3:lP 3 (dB 101 m.e++[])=([],m.e):=qU (k:=3) e1 e2 (a4 (fun c=>kC c=false)) (a4 (fun c=>c≠101));have l1:CT (dH m) 1=dB 121 m.y++(dB 100 m.d++(dB 101 m.e++[])):=by show(lP 0 (dH m)).1=_;rw[g0]
 have l2:CT (dH m) 2=dB 100 m.d++(dB 101 m.e++[]):=by show(lP 1 (CT (dH m) 1)).1=_;rw[l1,g1]
 have l3:CT (dH m) 3=dB 101 m.e++[]:=by show(lP 2 (CT (dH m) 2)).1=_;rw[l2,g2]
 unfold gR xT;rw[l1,l2,l3,g1,g2,g3];show(⟨(lP 0 (dH m)).2,_,_,_⟩:M)=m
 rw[g0]
theorem NS {m:M} (h:M.ok m=true):gR (eY m)=m:=by
 by_cases h0:dH m=[]
 ·rw[kL h h0];have e:m=⟨0,0,0,0⟩:=by
   by_cases hz:m.x=0∧m.y=0∧m.d=0∧m.e=0
   ·rcases m with⟨x,y,d,e⟩
    obtain⟨rfl,rfl,rfl,rfl⟩:=hz;rfl
   ·obtain⟨c,r,e,_⟩:=kK h hz;rw[e]at h0;cases h0
  rw[e];have e2:gR [49]=⟨0,0,0,0⟩:=by kernel_rfl
  exact e2
 ·rw[fV h h0];exact NR h
def lN (s:List UInt8):M×Bool:=if s.length≤40∧eY (gR s)=s then(gR s,true)else(⟨0,0,0,0⟩,false)
theorem JA {s:List UInt8} (h:eY (gR s)=s):M.ok (gR s)=true:=by
 cases hk:M.ok (gR s)
 ·rw[wJ hk]at h;subst h;exact absurd hk (by decide+kernel)
 ·rfl
theorem OC {s:List UInt8} {g:M} (hg:∀m,M.ok m=true→eY m=s→g=m):lN s=if s.length≤40∧(M.ok g=true∧eY g=s)then(g,true)else(⟨0,0,0,0⟩,false):=by
 unfold lN;by_cases h:eY (gR s)=s
 ·have hk:=JA h;have e:g=gR s:=hg _ hk h
  subst e;by_cases hl:s.length≤40
  ·rw[if_pos ⟨hl,h⟩,if_pos ⟨hl,hk,h⟩]
  ·rw[if_neg (fun q=>hl q.1),if_neg (fun q=>hl q.1)]
 ·rw[if_neg (fun q=>h q.2),if_neg (fun q=>h ?_)];rw[←q.2.2,NS q.2.1]
end Go.Proofs.YtkcmamepoplcdaaGreatDoor
