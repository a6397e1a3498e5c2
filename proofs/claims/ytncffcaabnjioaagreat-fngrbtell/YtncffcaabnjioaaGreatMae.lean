/-
  What the helpers of the exact laws do: they copy terms, hold them against each other, write marks into them and look for
-/
import Derived.Test.YtncffcaabnjioaaGreatMad
import Derived.Deep.AppendLies
set_option maxHeartbeats 8000000
set_option maxRecDepth 100000
namespace Go.Proofs.YtncffcaabnjioaaGreat
open Go.RowKit
set_option linter.unusedVariables false
theorem bQ {n B o0 o1 o2 o3 o4:Nat} {a w:World} (h:Below n a w) (hB:n≤B) (u0 u1 u2 u3 u4:Value):Below n a (((((w.setCell ⟨B,o0,none⟩ u0).setCell ⟨B,o1,none⟩ u1).setCell ⟨B,o2,none⟩ u2).setCell ⟨B,o3,none⟩ u3).setCell ⟨B,o4,none⟩ u4):=
 ((((h.setCell hB u0).setCell hB u1).setCell hB u2).setCell hB u3).setCell hB u4
def cf (f:Nat→T) (j:Nat):Value:=if j%5=0 then .int .i64 (f (j / 5)).c else if j%5=1 then .int .i64 (f (j / 5)).m.x else if j%5=2 then .int .i64 (f (j / 5)).m.y else if j%5=3 then .int .i64 (f (j / 5)).m.d else .int .i64 (f (j / 5)).m.e
theorem cf0 (f:Nat→T) (i:Nat):cf f (i*5)= .int .i64 (f i).c:=by unfold cf;rw[if_pos (by omega),show i*5 / 5=i by omega]
theorem TD (f:Nat→T) (i:Nat):cf f (i*5+1)= .int .i64 (f i).m.x:=by unfold cf;rw[if_neg (by omega),if_pos (by omega),show(i*5+1) / 5=i by omega]
theorem TE (f:Nat→T) (i:Nat):cf f (i*5+2)= .int .i64 (f i).m.y:=by unfold cf;rw[if_neg (by omega),if_neg (by omega),if_pos (by omega),show(i*5+2) / 5=i by omega]
theorem YN (f:Nat→T) (i:Nat):cf f (i*5+3)= .int .i64 (f i).m.d:=by unfold cf;rw[if_neg (by omega),if_neg (by omega),if_neg (by omega),if_pos (by omega),show(i*5+3) / 5=i by omega]
theorem YO (f:Nat→T) (i:Nat):cf f (i*5+4)= .int .i64 (f i).m.e:=by unfold cf;rw[if_neg (by omega),if_neg (by omega),if_neg (by omega),if_neg (by omega),show(i*5+4) / 5=i by omega]
def Own (w:World) (g n:Nat) (f:Nat→T):Prop:=w.rowIs g 47 (n*5) (cf f)
theorem Own.cells {w:World} {g n:Nat} {f:Nat→T} (h:Own w g n f) {i:Nat} (hi:i<n):nU w g (0+i*5) (f i):=by rw[Nat.zero_add];exact⟨by rw[h.cell (by omega),cf0],by rw[h.cell (by omega),TD],by rw[h.cell (by omega),TE],by rw[h.cell (by omega),YN],by rw[h.cell (by omega),YO]⟩
theorem Own.rd {w:World} {g n:Nat} {f:Nat→T} (h:Own w g n f) (hn:n*40≤140737488351232):Rd w (some ⟨g,0,none⟩) n n f:=
 ⟨Nat.le_refl _,hn,.inr ⟨g,0,rfl,h.lt,fun i hi=>h.cells hi⟩⟩
theorem Own.below {w w':World} {g n B:Nat} {f:Nat→T} (h:Own w g n f) (hb:Below B w w') (hg:g<B):Own w' g n f:=h.of_block (hb.block g hg)
theorem yP:(Tryz.prog.info? 47).map (fun i=>(i.zero,i.size,i.bytes))=some (some (.agg #[.int .i64 0,.int .i64 0,.int .i64 0,.int .i64 0,.int .i64 0]),5,40):=by kernel_rfl
def Wr (w:World) (a:Option Addr) (n:Nat) (f:Nat→T):Prop:=
 n=0∨∃g off N F,a=some ⟨g,off,none⟩∧w.rowIs g 47 N F∧off+n*5≤N∧∀j,j<n*5→F (off+j)=cf f j
def mk (k:Int) (i:Nat):T:=⟨k+5*i,⟨k+5*i+1,k+5*i+2,k+5*i+3,k+5*i+4⟩⟩
theorem FH (w:World) (r:Option Nat):w.grownBy w r:=⟨rfl,rfl,rfl,Nat.le_refl _,fun _ _ _=>rfl⟩
def T.cells (t:T):List Value:=[.int .i64 t.c,.int .i64 t.m.x,.int .i64 t.m.y,.int .i64 t.m.d,.int .i64 t.m.e]
def aF:List T→List Value
 |[]=>[]
 |t::r=>t.cells++aF r
theorem bF (a b:List T):aF (a++b)=aF a++aF b:=by
 induction a with
 |nil=>rfl
 |cons t r ih=>simp[aF,ih,List.append_assoc]
theorem aU (a:List T):(aF a).length=a.length*5:=by
 induction a with
 |nil=>rfl
 |cons t r ih=>simp[aF,T.cells,ih];omega
theorem dG (t:T):aF [t]=[.int .i64 t.c,.int .i64 t.m.x,.int .i64 t.m.y,.int .i64 t.m.d,.int .i64 t.m.e]:=by simp[aF,T.cells]
def gD (f:Nat→T) (la:Nat) (g:Nat→T) (lb:Nat):Nat→Nat→Nat→List T
 |0,_,_=>[]
 |u+1,i,k=>
  if i<la∧k<lb then
   if 0<M.ord 1 (f i).m (g k).m then f i::gD f la g lb u (i+1) k
   else if M.ord 1 (f i).m (g k).m<0 then g k::gD f la g lb u i (k+1)
   else if((f i).c+(g k).c)%101≠0 then⟨((f i).c+(g k).c)%101,(f i).m⟩::gD f la g lb u (i+1) (k+1)
   else gD f la g lb u (i+1) (k+1)
  else if i<la then f i::gD f la g lb u (i+1) k
  else if k<lb then g k::gD f la g lb u i (k+1)
  else[]
theorem kG (f:Nat→T) (la:Nat) (g:Nat→T) (lb:Nat):∀(u v i k:Nat),la-i+(lb-k)≤u→la-i+(lb-k)≤v→gD f la g lb u i k=gD f la g lb v i k
 |0,0,_,_,_,_=>rfl
 |0,v+1,i,k,h,_=>by simp only[gD];rw[if_neg (by omega),if_neg (by omega),if_neg (by omega)]
 |u+1,0,i,k,_,h=>by simp only[gD];rw[if_neg (by omega),if_neg (by omega),if_neg (by omega)]
 |u+1,v+1,i,k,h,h'=>by
  simp only[gD];by_cases h1:i<la∧k<lb
  ·rw[if_pos h1,if_pos h1,kG f la g lb u v (i+1) k (by omega) (by omega),kG f la g lb u v i (k+1) (by omega) (by omega),kG f la g lb u v (i+1) (k+1) (by omega) (by omega)]
  ·rw[if_neg h1,if_neg h1];by_cases h2:i<la
   ·rw[if_pos h2,if_pos h2,kG f la g lb u v (i+1) k (by omega) (by omega)]
   ·rw[if_neg h2,if_neg h2];by_cases h3:k<lb
    ·rw[if_pos h3,if_pos h3,kG f la g lb u v i (k+1) (by omega) (by omega)]
    ·rw[if_neg h3,if_neg h3]
def eI (f:Nat→T) (la:Nat) (g:Nat→T) (lb:Nat) (i k:Nat):List T:=gD f la g lb (la-i+(lb-k)) i k
theorem GY {f:Nat→T} {la:Nat} {g:Nat→T} {lb i k:Nat} (hi:i<la) (h:¬k<lb∨0<M.ord 1 (f i).m (g k).m):eI f la g lb i k=f i::eI f la g lb (i+1) k:=by
 unfold eI;rw[show la-i+(lb-k)=(la-(i+1)+(lb-k))+1 by omega];simp only[gD];by_cases hk:k<lb
 ·rw[if_pos ⟨hi,hk⟩,if_pos (h.resolve_left (fun h=>h hk))]
 ·rw[if_neg (fun h=>hk h.2),if_pos hi]
theorem GZ {f:Nat→T} {la:Nat} {g:Nat→T} {lb i k:Nat} (hk:k<lb) (h:¬i<la∨M.ord 1 (f i).m (g k).m<0):eI f la g lb i k=g k::eI f la g lb i (k+1):=by
 unfold eI;rw[show la-i+(lb-k)=(la-i+(lb-(k+1)))+1 by omega];simp only[gD];by_cases hi:i<la
 ·have h':=h.resolve_left (fun h=>h hi);rw[if_pos ⟨hi,hk⟩,if_neg (by omega),if_pos h']
 ·rw[if_neg (fun h=>hi h.1),if_neg hi,if_pos hk]
theorem GX {f:Nat→T} {la:Nat} {g:Nat→T} {lb i k:Nat} (hi:i<la) (hk:k<lb) (h:M.ord 1 (f i).m (g k).m=0):eI f la g lb i k=(if((f i).c+(g k).c)%101≠0 then[⟨((f i).c+(g k).c)%101,(f i).m⟩]else[])++eI f la g lb (i+1) (k+1):=by
 unfold eI;rw[show la-i+(lb-k)=(la-i+(lb-k)-1)+1 by omega];simp only[gD];rw[if_pos ⟨hi,hk⟩,if_neg (by omega),if_neg (by omega),kG f la g lb (la-i+(lb-k)-1) (la-(i+1)+(lb-(k+1))) (i+1) (k+1) (by omega) (by omega)];by_cases hc:((f i).c+(g k).c)%101≠0
 ·rw[if_pos hc,if_pos hc];rfl
 ·rw[if_neg hc,if_neg hc];rfl
theorem NK {f:Nat→T} {la:Nat} {g:Nat→T} {lb i k:Nat} (hi:¬i<la) (hk:¬k<lb):eI f la g lb i k=[]:=by unfold eI;rw[show la-i+(lb-k)=0 by omega];rfl
theorem rF (f:Nat→T) (la:Nat) (g:Nat→T) (lb:Nat):∀(u i k:Nat),(gD f la g lb u i k).length≤u
 |0,_,_=>by simp[gD]
 |u+1,i,k=>by
  have a1:=rF f la g lb u (i+1) k;have a2:=rF f la g lb u i (k+1)
  have a3:=rF f la g lb u (i+1) (k+1);simp only[gD]
  repeat' split
  all_goals simp
  all_goals omega
theorem vS (f:Nat→T) (la:Nat) (g:Nat→T) (lb i k:Nat):(eI f la g lb i k).length≤la-i+(lb-k):=rF _ _ _ _ _ _ _
theorem dN (t:T):∀u∈aF [t],u.oneCell'=true:=by rw[dG];intro u hu;simp only[List.mem_cons,List.not_mem_nil,or_false]at hu;rcases hu with rfl|rfl|rfl|rfl|rfl<;>rfl
theorem wH {w w':World} (h:Below w.heap.size w w'):w.grownBy w' none:=⟨h.os,h.tape,h.output,h.size,fun k hk _=>h.block k hk⟩
theorem dW {w w':World} {base:Nat} {e:TypeId} {size:Nat} {v:Value} {n:Nat} {xs:List Value} (h:w.ownsRow base e size v n xs) (hb:Below w.heap.size w w'):w'.ownsRow base e size v n xs:=by
 refine h.kept (wH hb) ?_;cases hv:v.ownBlock with
 |none=>exact .inl rfl
 |some k=>exact .inr (by simp)
theorem oS (w:World) (a b:Option Addr) (la ca lb cb:Nat) (f g:Nat→T) (ha:Rd w a la ca f) (hb:Rd w b lb cb g) (hl:la+lb≤1000000) (hcf:∀i,i<la→0≤(f i).c∧(f i).c≤100) (hcg:∀i,i<lb→0≤(g i).c∧(g i).c≤100):Calls Tryz.prog 86 #[.slice a la ca,.slice b lb cb] w fun r w'=>∃v,r= .returned v∧Below w.heap.size w w'∧w'.ownsRow w.heap.size 47 5 v (eI f la g lb 0 0).length (aF (eI f la g lb 0 0)):=by
 obtain⟨i0,hi0,hz0,hz1,hz2⟩:=info_parts yP;obtain⟨a1,a2,a3⟩:=ha;obtain⟨b1,b2,b3⟩:=hb;have hla:(la:Int)≤1000000:=by omega
 have hlb:(lb:Int)≤1000000:=by omega
 go_enter Tryz.func86,Tryz.ntmps86;go_wp2;go_loopw [5,6,7] (fun v ii kk wr=>∃(i k:Nat) (out:List T),i≤la∧k≤lb∧ii= .int .i64 i∧kk= .int .i64 k∧Below w.heap.size w wr∧wr.ownsRow w.heap.size 47 5 v out.length (aF out)∧out.length≤i+k∧Hid (out++eI f la g lb i k=eI f la g lb 0 0)) (fun _ ii kk _=>(la-(intOf ii).toNat)+(lb-(intOf kk).toNat));case atStart=>exact⟨0,0,[],gL _,gL _,rfl,rfl,(cE _ _).alloc (Nat.le_refl _) _,World.ownsRow_lit _ _ _ (Nat.le_refl _) (gL _) rfl,gL _,rfl⟩
 case round=>
  obtain⟨i,k,out,hi,hk,rfl,rfl,hB,hown,hol,HL⟩:=hrel;by_cases hia:i<la
  ·rcases a3 with h0|⟨ba,oa,rfl,hal,hac⟩
   ·omega
   have hin:(i:Int)<(la:Int):=by omega
   by_cases hkb:k<lb
   ·rcases b3 with h0|⟨bb,ob,rfl,hbl,hbc⟩
    ·omega
    have hkn:(k:Int)<(lb:Int):=by omega
    have hba:ba<wr.heap.size:=lG hal hB.size;have hbb:bb<wr.heap.size:=lG hbl hB.size
    have ne:=cX.there wr;have hca:=(hac i hia).below hB hal
    have hcb:=(hbc k hkb).below hB hbl;obtain⟨TD,TE⟩:=hcf i hia;obtain⟨cg1,cg2⟩:=hcg k hkb;have ke:((k:Int)==(lb:Int))=false:=by simp;omega
    have ie:((i:Int)==(la:Int))=false:=by simp;omega
    have s0:∀u:cX wr,u.1.cell? ⟨ba,oa+i*5,none⟩=some (.int .i64 (f i).c):=fun u=>(u.cell hba).trans hca.1;have s1:∀u:cX wr,u.1.cell? ⟨ba,oa+i*5+1,none⟩=some (.int .i64 (f i).m.x):=fun u=>(u.cell hba).trans hca.2.1
    have s2:∀u:cX wr,u.1.cell? ⟨ba,oa+i*5+2,none⟩=some (.int .i64 (f i).m.y):=fun u=>(u.cell hba).trans hca.2.2.1;have s3:∀u:cX wr,u.1.cell? ⟨ba,oa+i*5+3,none⟩=some (.int .i64 (f i).m.d):=fun u=>(u.cell hba).trans hca.2.2.2.1
    have s4:∀u:cX wr,u.1.cell? ⟨ba,oa+i*5+4,none⟩=some (.int .i64 (f i).m.e):=fun u=>(u.cell hba).trans hca.2.2.2.2;have t0:∀u:cX wr,u.1.cell? ⟨bb,ob+k*5,none⟩=some (.int .i64 (g k).c):=fun u=>(u.cell hbb).trans hcb.1
    have t1:∀u:cX wr,u.1.cell? ⟨bb,ob+k*5+1,none⟩=some (.int .i64 (g k).m.x):=fun u=>(u.cell hbb).trans hcb.2.1;have t2:∀u:cX wr,u.1.cell? ⟨bb,ob+k*5+2,none⟩=some (.int .i64 (g k).m.y):=fun u=>(u.cell hbb).trans hcb.2.2.1
    have t3:∀u:cX wr,u.1.cell? ⟨bb,ob+k*5+3,none⟩=some (.int .i64 (g k).m.d):=fun u=>(u.cell hbb).trans hcb.2.2.2.1;have t4:∀u:cX wr,u.1.cell? ⟨bb,ob+k*5+4,none⟩=some (.int .i64 (g k).m.e):=fun u=>(u.cell hbb).trans hcb.2.2.2.2
    have HOW:=aA hown;have HCA:=aA hca
    have HCB:=aA hcb;clear hac hbc hcf hcg hown hca hcb;go_wp2_with fail;refine aJ (by kernel_rfl) (by kernel_rfl) ?_;repeat(go_big_quiet_step (first|(go_at_call 84;exact aM (IY _ _ _ _ _ _ _ _ _))))
    refine wpQuiet_nil ?_;rintro wu ⟨x,hx⟩;have hu:Below wr.heap.size wr wu:=by rw[hx];exact x.2
    clear hx x;have hBu:=hB.trans (hu.mono hB.size)
    have hownu:=dW HOW.out hu;obtain⟨x0,x1,x2,x3,x4⟩:=HCA.out.below hu hba;obtain⟨y0,y1,y2,y3,y4⟩:=HCB.out.below hu hbb;clear s0 s1 s2 s3 s4 t0 t1 t2 t3 t4 HOW HCA HCB hB hu;by_cases hq:0<M.ord 1 (f i).m (g k).m
    ·have dq:decide (0<M.ord 1 ⟨(f i).m.x,(f i).m.y,(f i).m.d,(f i).m.e⟩ ⟨(g k).m.x,(g k).m.y,(g k).m.d,(g k).m.e⟩)=true:=decide_eq_true hq;go_wp2_with (at_builtin;refine wpList_append_lies _ rfl (.tmp 85) (.tmp 90) 24 rfl w.heap.size 47 i0 _ 5 40 Tryz.underlying24 hi0 hz0 hz1 hz2 rfl (by omega) _ out.length (aF out) rfl (hownu.alloc _) ⟨wu.heap.size,0,none⟩ 1 1 (aF [f i]) rfl (by rw[aU];rfl) (by rw[dG];exact World.news_of_block (heap_alloc_new wu _)) (dN _) (by omega) (by unfold maxLen;omega) (by omega) (by have:=hBu.size;simp;omega) _ rfl ?_;intro g0 cap0 w1 hown1 hgrow hat hlt1;have HB:=aA ((hBu.alloc hBu.size _).grown hgrow (jW hBu.size (by simp)) (fun k hk=>(hownu.lt k hk).1));have HO:=aA hown1;clear hown1 hgrow hat hlt1 hownu);go_roundw
     case rel=>
      refine⟨i+1,k,out++[f i],by omega,by omega,by go_num,by go_num,HB.out,?_,by simp;omega,?_⟩
      ·rw[bF,List.length_append];exact HO.out
      ·show out++[f i]++eI f la g lb (i+1) (k)=_;rw[←HL.out,GY hia (.inr hq),List.append_assoc];rfl
     case measure=>simp[intOf];omega
    ·have dq:decide (0<M.ord 1 ⟨(f i).m.x,(f i).m.y,(f i).m.d,(f i).m.e⟩ ⟨(g k).m.x,(g k).m.y,(g k).m.d,(g k).m.e⟩)=false:=decide_eq_false hq;by_cases hr:M.ord 1 (f i).m (g k).m<0
     ·have dr:decide (M.ord 1 ⟨(f i).m.x,(f i).m.y,(f i).m.d,(f i).m.e⟩ ⟨(g k).m.x,(g k).m.y,(g k).m.d,(g k).m.e⟩<0)=true:=decide_eq_true hr;go_wp2_with (at_builtin;refine wpList_append_lies _ rfl (.tmp 103) (.tmp 108) 24 rfl w.heap.size 47 i0 _ 5 40 Tryz.underlying24 hi0 hz0 hz1 hz2 rfl (by omega) _ out.length (aF out) rfl (hownu.alloc _) ⟨wu.heap.size,0,none⟩ 1 1 (aF [g k]) rfl (by rw[aU];rfl) (by rw[dG];exact World.news_of_block (heap_alloc_new wu _)) (dN _) (by omega) (by unfold maxLen;omega) (by omega) (by have:=hBu.size;simp;omega) _ rfl ?_;intro g0 cap0 w1 hown1 hgrow hat hlt1;have HB:=aA ((hBu.alloc hBu.size _).grown hgrow (jW hBu.size (by simp)) (fun k hk=>(hownu.lt k hk).1));have HO:=aA hown1;clear hown1 hgrow hat hlt1 hownu);go_roundw
      case rel=>
       refine⟨i,k+1,out++[g k],by omega,by omega,by go_num,by go_num,HB.out,?_,by simp;omega,?_⟩
       ·rw[bF,List.length_append];exact HO.out
       ·show out++[g k]++eI f la g lb (i) (k+1)=_;rw[←HL.out,GZ hkb (.inr hr),List.append_assoc];rfl
      case measure=>simp[intOf];omega
     ·have dr:decide (M.ord 1 ⟨(f i).m.x,(f i).m.y,(f i).m.d,(f i).m.e⟩ ⟨(g k).m.x,(g k).m.y,(g k).m.d,(g k).m.e⟩<0)=false:=decide_eq_false hr;have h0:M.ord 1 (f i).m (g k).m=0:=by omega
      have ne2:=cX.there wu;have bau:ba<wu.heap.size:=lG hal hBu.size
      have bbu:bb<wu.heap.size:=lG hbl hBu.size;have e0:∀u:cX wu,u.1.cell? ⟨ba,oa+i*5,none⟩=some (.int .i64 (f i).c):=fun u=>(u.cell bau).trans x0
      have e1:∀u:cX wu,u.1.cell? ⟨bb,ob+k*5,none⟩=some (.int .i64 (g k).c):=fun u=>(u.cell bbu).trans y0;have HX:=aA (show nU wu ba (oa+i*5) (f i)from⟨x0,x1,x2,x3,x4⟩)
      have HOW:=aA hownu;have H0:=aA h0
      have h0':M.ord 1 ⟨(f i).m.x,(f i).m.y,(f i).m.d,(f i).m.e⟩ ⟨(g k).m.x,(g k).m.y,(g k).m.d,(g k).m.e⟩=0:=h0;clear x0 x1 x2 x3 x4 y0 y1 y2 y3 y4 hownu h0 hq hr dq dr;go_wp2_with fail;refine aJ (by kernel_rfl) (by kernel_rfl) ?_;repeat(go_big_quiet_step (fail))
      refine wpQuiet_nil ?_;rintro wv ⟨x,hx⟩;have hv:Below wu.heap.size wu wv:=by rw[hx];exact x.2
      clear hx x;have hBv:=hBu.trans (hv.mono hBu.size)
      have hownv:=dW HOW.out hv;obtain⟨z0,z1,z2,z3,z4⟩:=HX.out.below hv bau;clear e0 e1 HX HOW hBu hv;by_cases hc0:((f i).c+(g k).c)%101=0
      ·have HC:=aA hc0;have hcb:(((f i).c+(g k).c)%101 !=0)=false:=by simp[hc0]
       have HO:=aA hownv;clear hc0 hownv;go_wp2;go_roundw
       case rel=>
        refine⟨i+1,k+1,out,by omega,by omega,by go_num,by go_num,hBv,HO.out,by omega,?_⟩;show out++eI f la g lb (i+1) (k+1)=_
        rw[←HL.out,GX hia hkb H0.out,if_neg (fun h=>h HC.out)];rfl
       case measure=>simp[intOf];omega
      ·have HC:=aA hc0;have hcb:(((f i).c+(g k).c)%101 !=0)=true:=by simp[hc0]
       clear hc0;go_wp2_with (at_builtin;refine wpList_append_lies _ rfl (.tmp 56) (.tmp 64) 24 rfl w.heap.size 47 i0 _ 5 40 Tryz.underlying24 hi0 hz0 hz1 hz2 rfl (by omega) _ out.length (aF out) rfl (hownv.alloc _) ⟨wv.heap.size,0,none⟩ 1 1 (aF [⟨((f i).c+(g k).c)%101,(f i).m⟩]) rfl (by rw[aU];rfl) (by rw[dG];exact World.news_of_block (heap_alloc_new wv _)) (dN _) (by omega) (by unfold maxLen;omega) (by omega) (by have:=hBv.size;simp;omega) _ rfl ?_;intro g0 cap0 w1 hown1 hgrow hat hlt1;have HB:=aA ((hBv.alloc hBv.size _).grown hgrow (jW hBv.size (by simp)) (fun k hk=>(hownv.lt k hk).1));have HO:=aA hown1;clear hown1 hgrow hat hlt1 hownv);go_roundw
       case rel=>
        refine⟨i+1,k+1,out++[⟨((f i).c+(g k).c)%101,(f i).m⟩],by omega,by omega,by go_num,by go_num,HB.out,?_,by simp;omega,?_⟩
        ·rw[bF,List.length_append];exact HO.out
        ·show out++[⟨((f i).c+(g k).c)%101,(f i).m⟩]++eI f la g lb (i+1) (k+1)=_;rw[←HL.out,GX hia hkb H0.out,if_pos HC.out,List.append_assoc]
       case measure=>simp[intOf];omega
   ·have hkk:k=lb:=by omega
    obtain⟨x0,x1,x2,x3,x4⟩:=(hac i hia).below hB hal;have ke:((k:Int)==(lb:Int))=true:=by simp;omega
    have kl:¬(k:Int)<(lb:Int):=by omega
    clear hac hcf hcg hkk;go_wp2_with (at_builtin;refine wpList_append_lies _ rfl (.tmp 85) (.tmp 90) 24 rfl w.heap.size 47 i0 _ 5 40 Tryz.underlying24 hi0 hz0 hz1 hz2 rfl (by omega) _ out.length (aF out) rfl (hown.alloc _) ⟨wr.heap.size,0,none⟩ 1 1 (aF [f i]) rfl (by rw[aU];rfl) (by rw[dG];exact World.news_of_block (heap_alloc_new wr _)) (dN _) (by omega) (by unfold maxLen;omega) (by omega) (by have:=hB.size;simp;omega) _ rfl ?_;intro g0 cap0 w1 hown1 hgrow hat hlt1;have HB:=aA ((hB.alloc hB.size _).grown hgrow (jW hB.size (by simp)) (fun k hk=>(hown.lt k hk).1));have HO:=aA hown1;clear hown1 hgrow hat hlt1 hown);go_roundw
    case rel=>
     refine⟨i+1,k,out++[f i],by omega,by omega,by go_num,by go_num,HB.out,?_,by simp;omega,?_⟩
     ·rw[bF,List.length_append];exact HO.out
     ·show out++[f i]++eI f la g lb (i+1) (k)=_;rw[←HL.out,GY hia (.inl hkb),List.append_assoc];rfl
    case measure=>simp[intOf];omega
  ·have il:¬(i:Int)<(la:Int):=by omega
   have ie:((i:Int)==(la:Int))=true:=by simp;omega
   by_cases hkb:k<lb
   ·rcases b3 with h0|⟨bb,ob,rfl,hbl,hbc⟩
    ·omega
    have hkn:(k:Int)<(lb:Int):=by omega
    have ke:((k:Int)==(lb:Int))=false:=by simp;omega
    obtain⟨y0,y1,y2,y3,y4⟩:=(hbc k hkb).below hB hbl;clear hbc hcf hcg;go_wp2_with (at_builtin;refine wpList_append_lies _ rfl (.tmp 103) (.tmp 108) 24 rfl w.heap.size 47 i0 _ 5 40 Tryz.underlying24 hi0 hz0 hz1 hz2 rfl (by omega) _ out.length (aF out) rfl (hown.alloc _) ⟨wr.heap.size,0,none⟩ 1 1 (aF [g k]) rfl (by rw[aU];rfl) (by rw[dG];exact World.news_of_block (heap_alloc_new wr _)) (dN _) (by omega) (by unfold maxLen;omega) (by omega) (by have:=hB.size;simp;omega) _ rfl ?_;intro g0 cap0 w1 hown1 hgrow hat hlt1;have HB:=aA ((hB.alloc hB.size _).grown hgrow (jW hB.size (by simp)) (fun k hk=>(hown.lt k hk).1));have HO:=aA hown1;clear hown1 hgrow hat hlt1 hown);go_roundw
    case rel=>
     refine⟨i,k+1,out++[g k],by omega,by omega,by go_num,by go_num,HB.out,?_,by simp;omega,?_⟩
     ·rw[bF,List.length_append];exact HO.out
     ·show out++[g k]++eI f la g lb (i) (k+1)=_;rw[←HL.out,GZ hkb (.inl hia),List.append_assoc];rfl
    case measure=>simp[intOf];omega
   ·have kl:¬(k:Int)<(lb:Int):=by omega
    have HO:=aA hown;clear hown hcf hcg;go_wp2;go_ret;refine⟨_,rfl,hB,?_⟩;rw[←HL.out,NK hia hkb,List.append_nil];exact HO.out
def lf (L:List T) (i:Nat):T:=L.getD i ⟨0,⟨0,0,0,0⟩⟩
theorem sZ (L:List T):∀j,j<L.length*5→(aF L)[j]? =some (cf (lf L) j):=by
 induction L with
 |nil=>intro j h;simp at h
 |cons t r ih=>
  intro j h;have e:aF (t::r)=t.cells++aF r:=rfl
  rw[e];by_cases hj:j<5
  ·rw[List.getElem?_append_left (by simp[T.cells];omega)];have h5:j=0∨j=1∨j=2∨j=3∨j=4:=by omega
   rcases h5 with rfl|rfl|rfl|rfl|rfl<;>rfl
  ·rw[List.getElem?_append_right (by simp[T.cells];omega),show T.cells t=[.int .i64 t.c,.int .i64 t.m.x,.int .i64 t.m.y,.int .i64 t.m.d,.int .i64 t.m.e]from rfl];simp only[List.length_cons,List.length_nil];rw[ih (j-5) (by simp at h;omega)];obtain⟨q,rfl⟩:∃q,j=q+5:=⟨j-5,by omega⟩
   simp only[Nat.add_sub_cancel];unfold cf;rw[show(q+5)%5=q%5 by omega,show(q+5) / 5=q / 5+1 by omega];rfl
def lI (lo:Nat) (w:World) (a:Option Addr) (cap:Nat) (L:List T):Prop:=
 Rd w a L.length cap (lf L)∧Wr w a L.length (lf L)∧(L.length=0∨∃g off,a=some ⟨g,off,none⟩∧lo≤g)
theorem aH {w:World} {lo:Nat} {v:Value} {L:List T} (h:w.ownsRow lo 47 5 v L.length (aF L)) (hl:L.length*40≤140737488351232):∃a cap,v= .slice a L.length cap∧lI lo w a cap L:=by
 rcases h.2 with⟨hv,h0⟩|⟨g,cap,cur,hv,hlo,hg,hn,hm,hs,ht⟩
 ·refine⟨none,0,by rw[hv,h0],⟨by omega,hl,.inl h0⟩,.inl h0,.inl h0⟩
 ·have hat:∀j,j<L.length*5→cur[j]? =some (cf (lf L) j):=by intro j hj;rw[←sZ L j hj,←ht,List.getElem?_take_of_lt hj];simp
  have hc5:L.length*5≤cap*5:=by omega
  have hrow:w.rowIs g 47 (cap*5) (fun j=>cur.getD j undef):=⟨cur,hg,hs,fun j hj=>by
   have hjs:j<cur.size:=by omega
   show cur[j]? =some (cur.getD j undef)
   rw[Array.getD_eq_getD_getElem?,Array.getElem?_eq_getElem hjs]
   rfl⟩
  have hcell:∀j,j<L.length*5→w.cell? ⟨g,j,none⟩=some (cf (lf L) j):=by intro j hj;rw[hrow.cell (by omega),Array.getD_eq_getD_getElem?,hat j hj];rfl
  refine⟨some ⟨g,0,none⟩,cap,hv,⟨hn,hl,.inr ⟨g,0,rfl,hrow.lt,fun i hi=>?_⟩⟩,.inr ⟨g,0,cap*5,_,rfl,hrow,by omega,fun j hj=>?_⟩,.inr ⟨g,0,rfl,hlo⟩⟩
  ·rw[Nat.zero_add];exact⟨by rw[hcell _ (by omega),cf0],by rw[hcell _ (by omega),TD],by rw[hcell _ (by omega),TE],by rw[hcell _ (by omega),YN],by rw[hcell _ (by omega),YO]⟩
  ·rw[Nat.zero_add,Array.getD_eq_getD_getElem?,hat j hj];rfl
theorem Wr.below {w w':World} {a:Option Addr} {n:Nat} {f:Nat→T} (h:Wr w a n f) (hb:Below w.heap.size w w'):Wr w' a n f:=by
 rcases h with h0|⟨g,off,N,F,rfl,hR,hN,hF⟩
 ·exact .inl h0
 ·exact .inr ⟨g,off,N,F,rfl,hR.of_block (hb.block g hR.lt),hN,hF⟩
theorem lI.below {lo:Nat} {w w':World} {a:Option Addr} {cap:Nat} {L:List T} (h:lI lo w a cap L) (hb:Below w.heap.size w w'):lI lo w' a cap L:=⟨h.1.below hb,h.2.1.below hb,h.2.2⟩
theorem nU.same {w w':World} {b o:Nat} {t:T} (h:nU w b o t) (he:w'.heap[b]? =w.heap[b]?):nU w' b o t:=by obtain⟨h0,h1,h2,h3,h4⟩:=h;exact⟨(lH (w:=w) (a:=⟨b,o,none⟩) he).trans h0,(lH (w:=w) (a:=⟨b,o+1,none⟩) he).trans h1,(lH (w:=w) (a:=⟨b,o+2,none⟩) he).trans h2,(lH (w:=w) (a:=⟨b,o+3,none⟩) he).trans h3,(lH (w:=w) (a:=⟨b,o+4,none⟩) he).trans h4⟩
theorem Rd.grown {w w':World} {a:Option Addr} {n cap:Nat} {f:Nat→T} {row:Option Nat} (h:Rd w a n cap f) (hg:w.grownBy w' row) (hne:n=0∨∀b off,a=some ⟨b,off,none⟩→some b≠row):Rd w' a n cap f:=by
 obtain⟨h1,h2,h3⟩:=h;refine⟨h1,h2,?_⟩;rcases h3 with h0|⟨b,off,rfl,hlt,hc⟩
 ·exact .inl h0
 ·rcases hne with h0|hne
  ·exact .inl h0
  ·exact .inr ⟨b,off,rfl,lG hlt hg.size,fun i hi=>(hc i hi).same (hg.block b hlt (hne b off rfl))⟩
theorem FX {w:World} {base base':Nat} {e:TypeId} {size:Nat} {v:Value} {n:Nat} {xs:List Value} (h:w.ownsRow base e size v n xs) (hb:base'≤base):w.ownsRow base' e size v n xs:=by
 refine⟨h.1,?_⟩;rcases h.2 with h0|⟨g,cap,cur,hv,hlo,hr⟩
 ·exact .inl h0
 ·exact .inr ⟨g,cap,cur,hv,jW hb hlo,hr⟩
theorem cD (w:World) (lo:Nat) (h:lo≤w.heap.size):(w.alloc (.cells #[] 47)).ownsRow lo 47 5 (.slice (some ⟨w.heap.size,0,none⟩) 0 0) 0 (aF []):=World.ownsRow_lit _ _ _ h (gL _) rfl
def cK (f:Nat→T):Nat→Nat→M→Int
 |0,_,_=>0
 |u+1,i,m=>if gB (f i).m m=true then(f i).c else cK f u (i+1) m
theorem qL {f:Nat→T} {m:M}:∀(u i:Nat),(∀j,i≤j→j<i+u→(f j).m≠m)→cK f u i m=0
 |0,_,_=>rfl
 |u+1,i,h=>by rw[cK,if_neg (fun e=>h i (Nat.le_refl _) (by omega) (bT.1 e))];exact qL u (i+1) (fun j h1 h2=>h j (by omega) (by omega))
def Fl (f:Nat→T) (n:Nat):Prop:=(∀j i,j<i→i<n→dY (f i).m<dY (f j).m)∧∀i,i<n→(f i).m.ok=true∧1≤(f i).c∧(f i).c≤100
theorem Fl.high {f:Nat→T} {n i:Nat} {m:M} (h:Fl f n) (hi:i<n→dY (f i).m<dY m):cK f (n-i) i m=0:=by
 refine qL _ _ (fun j h1 h2 e=>?_);have hin:i<n:=by omega
 have h3:=hi hin;by_cases hji:j=i
 ·rw[hji]at e;rw[e]at h3;omega
 ·have:=h.1 i j (by omega) (by omega);rw[e]at this;omega
theorem mX {f:Nat→T} {n i:Nat} (m:M) (hi:i<n):cK f (n-i) i m=if gB (f i).m m=true then(f i).c else cK f (n-(i+1)) (i+1) m:=by rw[show n-i=(n-(i+1))+1 by omega,cK]
theorem qK {t:T} {r:List T} (h:aK r) (h1:∀s∈r,dY s.m<dY t.m) (h2:t.m.ok=true∧1≤t.c∧t.c≤100):aK (t::r):=
 ⟨List.pairwise_cons.2 ⟨h1,h.1⟩,fun s hs=>by rcases List.mem_cons.1 hs with rfl|hs;exact h2;exact h.2 s hs⟩
theorem iQ {f:Nat→T} {la:Nat} {g:Nat→T} {lb:Nat} (F:Fl f la) (G:Fl g lb):∀(u i k:Nat),la-i+(lb-k)≤u→(∀t∈gD f la g lb u i k,(∃j,i≤j∧j<la∧t.m=(f j).m)∨(∃j,k≤j∧j<lb∧t.m=(g j).m))∧aK (gD f la g lb u i k)∧∀m,aL (gD f la g lb u i k) m=(cK f (la-i) i m+cK g (lb-k) k m)%101
 |0,i,k,hu=>by refine⟨fun t ht=>by simp[gD]at ht,⟨List.Pairwise.nil,fun t ht=>by simp[gD]at ht⟩,fun m=>?_⟩;rw[show la-i=0 by omega,show lb-k=0 by omega];rfl
 |u+1,i,k,hu=>by
  have up:∀(n i:Nat),n-i=0→∀m,cK f (n-i) i m=0:=fun n i h m=>by rw[h];rfl
  have low:∀{t:T} {i' k':Nat} {r:Int},((∃j,i'≤j∧j<la∧t.m=(f j).m)∨(∃j,k'≤j∧j<lb∧t.m=(g j).m))→(i'<la→dY (f i').m<r)→(k'<lb→dY (g k').m<r)→dY t.m<r:=by
   intro t i' k' r h h1 h2;rcases h with⟨j,a1,a2,a3⟩|⟨j,a1,a2,a3⟩
   ·rw[a3];by_cases hj:j=i'
    ·rw[hj];exact h1 (by omega)
    ·have:=F.1 i' j (by omega) a2;have:=h1 (by omega);omega
   ·rw[a3];by_cases hj:j=k'
    ·rw[hj];exact h2 (by omega)
    ·have:=G.1 k' j (by omega) a2;have:=h2 (by omega);omega
  have fi:i<la→(k<lb→dY (g k).m<dY (f i).m)→(∀t∈f i::gD f la g lb u (i+1) k,(∃j,i≤j∧j<la∧t.m=(f j).m)∨(∃j,k≤j∧j<lb∧t.m=(g j).m))∧aK (f i::gD f la g lb u (i+1) k)∧∀m,aL (f i::gD f la g lb u (i+1) k) m=(cK f (la-i) i m+cK g (lb-k) k m)%101:=by
   intro hi hk;obtain⟨p1,p2,p3⟩:=iQ F G u (i+1) k (by omega);refine⟨fun t ht=>?_,qK p2 (fun s hs=>low (p1 s hs) (fun h=>F.1 i (i+1) (by omega) h) hk) (F.2 i hi),fun m=>?_⟩
   ·rcases List.mem_cons.1 ht with rfl|ht
    ·exact .inl ⟨i,Nat.le_refl _,hi,rfl⟩
    ·exact(p1 t ht).imp (fun⟨j,a1,a2,a3⟩=>⟨j,by omega,a2,a3⟩) id
   ·rw[mX m hi];by_cases hm:gB (f i).m m=true
    ·have:=bT.1 hm;subst this;have h0:=F.2 i hi
     rw[bC,if_pos hm,G.high hk,Int.add_zero];omega
    ·rw[aL,if_neg hm,if_neg hm];exact p3 m
  have gk:k<lb→(i<la→dY (f i).m<dY (g k).m)→(∀t∈g k::gD f la g lb u i (k+1),(∃j,i≤j∧j<la∧t.m=(f j).m)∨(∃j,k≤j∧j<lb∧t.m=(g j).m))∧aK (g k::gD f la g lb u i (k+1))∧∀m,aL (g k::gD f la g lb u i (k+1)) m=(cK f (la-i) i m+cK g (lb-k) k m)%101:=by
   intro hk hi;obtain⟨p1,p2,p3⟩:=iQ F G u i (k+1) (by omega);refine⟨fun t ht=>?_,qK p2 (fun s hs=>low (p1 s hs) hi (fun h=>G.1 k (k+1) (by omega) h)) (G.2 k hk),fun m=>?_⟩
   ·rcases List.mem_cons.1 ht with rfl|ht
    ·exact .inr ⟨k,Nat.le_refl _,hk,rfl⟩
    ·exact(p1 t ht).imp id (fun⟨j,a1,a2,a3⟩=>⟨j,by omega,a2,a3⟩)
   ·rw[mX (f:=g) m hk];by_cases hm:gB (g k).m m=true
    ·have:=bT.1 hm;subst this;have h0:=G.2 k hk
     rw[bC,if_pos hm,F.high hi,Int.zero_add];omega
    ·rw[aL,if_neg hm,if_neg hm];exact p3 m
  simp only[gD];by_cases hik:i<la∧k<lb
  ·rw[if_pos hik];have hrk:=xC (F.2 i hik.1).1 (G.2 k hik.2).1
   by_cases h1:0<M.ord 1 (f i).m (g k).m
   ·rw[if_pos h1];exact fi hik.1 (fun _=>(sE (F.2 i hik.1).1 (G.2 k hik.2).1).1 h1)
   ·rw[if_neg h1];by_cases h2:M.ord 1 (f i).m (g k).m<0
    ·rw[if_pos h2];refine gk hik.2 (fun _=>?_);rw[←hrk]at h2;unfold c3 at h2;split at h2
     ·assumption
     ·split at h2<;>omega
    ·rw[if_neg h2];have heq:dY (f i).m=dY (g k).m:=by
      have h3:M.ord 1 (f i).m (g k).m=0:=by omega
      rw[←hrk]at h3;unfold c3 at h3;split at h3
      ·omega
      ·split at h3<;>omega
     have hmm:=AW (F.2 i hik.1).1 (G.2 k hik.2).1 heq;obtain⟨p1,p2,p3⟩:=iQ F G u (i+1) (k+1) (by omega);have hsum:∀m,(cK f (la-i) i m+cK g (lb-k) k m)%101=if gB (f i).m m=true then((f i).c+(g k).c)%101 else(cK f (la-(i+1)) (i+1) m+cK g (lb-(k+1)) (k+1) m)%101:=fun m=>by rw[mX m hik.1,mX (f:=g) m hik.2,←hmm];split<;>rfl
     have hhi:aL (gD f la g lb u (i+1) (k+1)) (f i).m=0:=by rw[p3,F.high (fun h=>F.1 i (i+1) (by omega) h),G.high (fun h=>by rw[hmm];exact G.1 k (k+1) (by omega) h)];rfl
     have q1:∀t∈gD f la g lb u (i+1) (k+1),(∃j,i≤j∧j<la∧t.m=(f j).m)∨(∃j,k≤j∧j<lb∧t.m=(g j).m):=fun t ht=>(p1 t ht).imp (fun⟨j,a1,a2,a3⟩=>⟨j,by omega,a2,a3⟩) (fun⟨j,a1,a2,a3⟩=>⟨j,by omega,a2,a3⟩);by_cases hz:((f i).c+(g k).c)%101≠0
     ·rw[if_pos hz];refine⟨fun t ht=>?_,qK p2 (fun s hs=>low (p1 s hs) (fun h=>F.1 i (i+1) (by omega) h) (fun h=>by rw[hmm];exact G.1 k (k+1) (by omega) h)) ⟨(F.2 i hik.1).1,by dsimp only;omega,by dsimp only;omega⟩,fun m=>?_⟩
      ·rcases List.mem_cons.1 ht with rfl|ht
       ·exact .inl ⟨i,Nat.le_refl _,hik.1,rfl⟩
       ·exact q1 t ht
      ·rw[hsum m,aL];by_cases hm:gB (f i).m m=true
       ·rw[if_pos hm,if_pos hm]
       ·rw[if_neg hm,if_neg hm];exact p3 m
     ·rw[if_neg hz];refine⟨q1,p2,fun m=>?_⟩;rw[hsum m];by_cases hm:gB (f i).m m=true
      ·have:=bT.1 hm;subst this;rw[if_pos hm,hhi];omega
      ·rw[if_neg hm];exact p3 m
  ·rw[if_neg hik];by_cases hi:i<la
   ·rw[if_pos hi];exact fi hi (fun h=>absurd ⟨hi,h⟩ hik)
   ·rw[if_neg hi];by_cases hk:k<lb
    ·rw[if_pos hk];exact gk hk (fun h=>absurd h hi)
    ·rw[if_neg hk];refine⟨fun t ht=>(by cases ht),⟨List.Pairwise.nil,fun t ht=>(by cases ht)⟩,fun m=>?_⟩;rw[show la-i=0 by omega,show lb-k=0 by omega];rfl
end Go.Proofs.YtncffcaabnjioaaGreat
