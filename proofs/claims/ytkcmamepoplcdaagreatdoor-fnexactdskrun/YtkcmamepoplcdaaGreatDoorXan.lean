/-
  Products of operators: their lists and numbers.
-/
import Derived.Test.YtkcmamepoplcdaaGreatDoorXam
set_option maxHeartbeats 4000000
set_option maxRecDepth 100000
namespace Go.Proofs.YtkcmamepoplcdaaGreatDoor
open Go.RowKit
set_option linter.unusedVariables false
def uO (a b:T) (i k:Nat):T:=⟨a.c*b.c%101*wy a.m.d b.m.x i%101*wy a.m.e b.m.y k%101,⟨a.m.x+b.m.x-i,a.m.y+b.m.y-k,a.m.d+b.m.d-i,a.m.e+b.m.e-k⟩⟩
def kN (a b:T) (i k:Nat):List T:=(List.range k).map (uO a b i)
def eE (a b:T) (i:Nat):List T:=(List.range i).flatMap fun i=>kN a b i (gW a b+1)
theorem qU (a b:T) (i:Nat):eE a b (i+1)=eE a b i++kN a b i (gW a b+1):=by simp[eE,List.range_succ]
theorem DY (a b:T) (i k:Nat):kN a b i (k+1)=kN a b i k++[uO a b i k]:=by simp[kN,List.range_succ]
theorem uN {lim:Nat} {s t:Int} {k:Nat} (h:k≤lim):(oF lim s t k).1.1=(k:Int):=if_pos h
theorem AY {a b:T} {g:M} (h:kZ a b g):(jM h (FG a b)).map (·.1)=eE a b (fR a b+1):=by
 have key:∀i,i≤fR a b→((KP a b).map (kU h (oF (fR a b) a.m.d b.m.x i))).map (·.1)=kN a b i (gW a b+1):=fun i hi=>by
  unfold KP jV kN;rw[List.map_map,List.map_map];refine List.map_congr_left (fun k hk=>?_);rw[List.mem_range]at hk;show sD a b g (oF (fR a b) a.m.d b.m.x i) (oF (gW a b) a.m.e b.m.y k)=uO a b i k
  unfold sD uO;rw[uN hi,uN (show k≤gW a b by omega),h.gx,h.gy,h.gd,h.ge];rfl
 have:∀n,n≤fR a b+1→(jM h (jV (fR a b) a.m.d b.m.x n)).map (·.1)=eE a b n:=fun n=>by
  induction n with
  |zero=>intro _;rfl
  |succ n ih=>
   intro hn;rw[←sH,tR,List.map_append,ih (by omega),key n (by omega),qU]
 exact this _ (Nat.le_refl _)
theorem CQ (c:M→Int) (xs:List TO):jE c xs=dT c (xs.map (·.1)):=by unfold jE dT;rw[List.foldl_map]
theorem qV {a b:T} {g:M} (h:kZ a b g):QU (eE a b (fR a b+1)):=by rw[←AY h];intro t ht;obtain⟨x,_,rfl⟩:=List.mem_map.1 ht;exact x.2
def aU (a b:T):List T:=cA (eE a b (fR a b+1)) []
theorem fP {a b:T} {g:M} (h:kZ a b g):aX (aU a b)∧bN (aU a b)=dT (fun _=>0) (eE a b (fR a b+1)):=eR _ [] (qV h) dN
theorem jI {a b:T} {g:M} (h:kZ a b g) {K:List T} (hK:aX K) {c:M→Int} (hc:∀m,0≤c m∧c m≤100) (hKc:∀m,m.ok=true→bN K m=c m):aX (dG K (aU a b))∧∀m,m.ok=true→bN (dG K (aU a b)) m=jE c (jM h (FG a b)) m:=by
 have h1:=fP h;have h2:=iN hK h1.1
 refine⟨h2.1,fun m hm=>?_⟩;rw[h2.2,h1.2,hKc m hm,CQ,AY h,lA _ c m (qV h) hc]
def bR (K:List T) (a b:T):Option (List T):=if(a.m.sum b.m).ok=true∧(dG K (aU a b)).length≤400 then some (dG K (aU a b))else none
def hZ (K:List T) (a:T) (g:Nat→T):Nat→Option (List T)
 |0=>some K
 |k+1=>(hZ K a g k).bind fun K'=>bR K' a (g k)
def dY (f:Nat→T) (g:Nat→T) (lb:Nat):Nat→Option (List T)
 |0=>some []
 |i+1=>(dY f g lb i).bind fun K=>hZ K (f i) g lb
theorem mC {K:List T} {a:T} {g:Nat→T} {k:Nat} (h:hZ K a g k=none):∀j,k≤j→hZ K a g j=none:=fun j hj=>by
 induction j with
 |zero=>
  have e:k=0:=by omega
  rw[e]at h;exact h
 |succ j ih=>
  by_cases e:k=j+1
  ·rw[←e];exact h
  ·rw[hZ,ih (by omega)];rfl
theorem lV {f g:Nat→T} {lb i:Nat} (h:dY f g lb i=none):∀j,i≤j→dY f g lb j=none:=fun j hj=>by
 induction j with
 |zero=>
  have e:i=0:=by omega
  rw[e]at h;exact h
 |succ j ih=>
  by_cases e:i=j+1
  ·rw[←e];exact h
  ·rw[dY,ih (by omega)];rfl
def aW (f:Nat→T) (la:Nat) (g:Nat→T) (lb:Nat):List T×Bool:=if aH la f=true∧aH lb g=true then fZ (dY f g lb la)else([],false)
theorem JG {K:List T} {a:T} {g:Nat→T} (hK:K.length≤400):∀k K',hZ K a g k=some K'→K'.length≤400
 |0,K',h=>by cases h;exact hK
 |k+1,K',h=>by
  rw[hZ]at h;cases hr:hZ K a g k with
  |none=>rw[hr]at h;cases h
  |some K1=>
   rw[hr]at h;change bR K1 a (g k)=some K' at h;unfold bR at h;split at h
   ·rename_i hh;cases h;exact hh.2
   ·cases h
theorem iX {f g:Nat→T} {lb:Nat}:∀i K,dY f g lb i=some K→K.length≤400
 |0,K,h=>by cases h;exact gO _
 |i+1,K,h=>by
  rw[dY]at h;cases hr:dY f g lb i with
  |none=>rw[hr]at h;cases h
  |some K1=>
   rw[hr]at h;exact JG (iX i K1 hr) lb K h
theorem kQ (f:Nat→T) (la:Nat) (g:Nat→T) (lb:Nat):(aW f la g lb).1.length≤400:=by
 unfold aW;split
 ·cases h:dY f g lb la with
  |none=>simp[fZ]
  |some K=>exact iX la K h
 ·simp
def CH (c:Int) (f:Nat→T) (k:Nat):List T:=(List.range k).map fun i=>⟨c*(f i).c%101,(f i).m⟩
theorem NC (c:Int) (f:Nat→T) (k:Nat):(CH c f k).length=k:=by simp[CH]
theorem JH (c:Int) (f:Nat→T) (k:Nat):CH c f (k+1)=CH c f k++[⟨c*(f k).c%101,(f k).m⟩]:=by simp[CH,List.range_succ]
theorem GK (w:World) (c:Int) (a:Option Addr) (n cap:Nat) (f:Nat→T) (h:Rd w a n cap f) (hc0:0≤c) (hc1:c≤100) (hl:n≤1000000) (hcf:∀i,i<n→0≤(f i).c∧(f i).c≤100):Calls Tryz.prog 102 #[.int .i64 c,.slice a n cap] w fun r w'=>∃v,r= .returned v∧Below w.heap.size w w'∧w'.ownsRow w.heap.size 79 5 v (if c=0 then 0 else n) (aG (CH c f (if c=0 then 0 else n))):=by
 obtain⟨i0,hi0,hz0,hz1,hz2⟩:=info_parts xZ;obtain⟨h1,h2,h3⟩:=h;have hn:(n:Int)≤1000000:=by omega
 by_cases hz:c=0
 ·rw[if_pos hz];subst hz;go_enter Tryz.func102,Tryz.ntmps102;go_wp2;go_loopw [5,6] (fun v i wr=>v= .slice (some ⟨w.heap.size,0,none⟩) 0 0∧i= .int .i64 0∧wr=w.alloc (.cells #[] 79)) (fun _ _ _=>0);case atStart=>exact⟨rfl,rfl,rfl⟩
  case round=>
   obtain⟨rfl,rfl,rfl⟩:=hrel;by_cases hn0:n=0
   ·subst hn0;go_wp2;go_ret;exact⟨_,rfl,(aD _ _).alloc (Nat.le_refl _) _,aQ w _ (Nat.le_refl _)⟩
   ·have hnp:(0:Int)<(n:Int):=by omega
    have dn:decide ((0:Int)<(n:Int))=true:=decide_eq_true hnp;go_wp2;go_ret;exact⟨_,rfl,(aD _ _).alloc (Nat.le_refl _) _,aQ w _ (Nat.le_refl _)⟩
 ·rw[if_neg hz];have hcb:(c !=0)=true:=by simp[hz]
  clear hz;go_enter Tryz.func102,Tryz.ntmps102;go_wp2;go_loopw [5,6] (fun v i wr=>∃k:Nat,k≤n∧i= .int .i64 k∧Below w.heap.size w wr∧wr.ownsRow w.heap.size 79 5 v k (aG (CH c f k))) (fun _ i _=>n-(intOf i).toNat);case atStart=>exact⟨0,gO _,rfl,(aD _ _).alloc (Nat.le_refl _) _,aQ w _ (Nat.le_refl _)⟩
  case round=>
   obtain⟨k,hk,rfl,hB,hown⟩:=hrel;by_cases hlt:k<n
   ·rcases h3 with h0|⟨b,off,rfl,hblt,hcl⟩
    ·omega
    have hkn:(k:Int)<(n:Int):=by omega
    have hbr:b<wr.heap.size:=eB hblt hB.size;obtain⟨g0,g1,g2,g3,g4⟩:=(hcl k hlt).below hB hblt;obtain⟨QO,QQ⟩:=hcf k hlt;obtain⟨mb1,mb2⟩:=gA hc0 hc1 QO QQ;have HV:Hid ((IntKind.i64.wrap (c*(f k).c)).tmod 101=c*(f k).c%101):=by show _=_;rw[show IntKind.i64.wrap (c*(f k).c)=c*(f k).c by rw[IntKind.wrap_i64];omega,Int.tmod_eq_emod_of_nonneg mb1]
    have HO:=aA hown;clear hcl hcf hown;go_wp2_with fail
    go_region_held3 (fun u=>u.cell? ⟨b,off+k*5,none⟩=some (.int .i64 (f k).c)∧u.cell? ⟨b,off+k*5+1,none⟩=some (.int .i64 (f k).m.x)∧u.cell? ⟨b,off+k*5+2,none⟩=some (.int .i64 (f k).m.y)∧u.cell? ⟨b,off+k*5+3,none⟩=some (.int .i64 (f k).m.d)∧u.cell? ⟨b,off+k*5+4,none⟩=some (.int .i64 (f k).m.e)) (first|go_keep|(refine⟨?_,?_,?_,?_,?_⟩<;>(rw[hgrow.cell_far _ (by simp;omega) (by intro hh;exact absurd (HO.out.lt b hh.symm).1 (by omega))];go_simp))) ((refine step_append_lies _ (by rfl) (.tmp 18) (.tmp 33) 22 (by rfl) w.heap.size 79 i0 _ 5 40 Tryz.underlying22 hi0 hz0 hz1 hz2 rfl (by omega) _ k (aG (CH c f k)) (by rfl) (by first|exact HO.out.alloc _|exact(aK HO.out (aD _ _).drew).alloc _) ⟨wr.heap.size,0,none⟩ 1 1 (aG [⟨c*(f k).c%101,(f k).m⟩]) (by rfl) (by rw[bL];rfl) (by rw[dE];simp only;rw[←HV.out];exact World.news_of_block (heap_alloc_new wr _)) (eC _) (by omega) (by unfold maxLen;omega) (by omega) (by have:=hB.size;simp;omega) _ (by rfl) ?_;intro g0 cap0 w1 hown1 hgrow hat hlt1))
    have HB:=aA (((hB.alloc hB.size _).drew).grown hgrow (jW hB.size (by simp)) (fun j hj=>(HO.out.lt j hj).1));have HP:=aA hown1
    clear hown1 hgrow hat hlt1 HO;go_wp2;go_roundw;case rel=>exact⟨k+1,by omega,by go_num,HB.out,by rw[JH,bY];exact HP.out⟩
    case measure=>simp[intOf];omega
   ·have hkn:k=n:=by omega
    subst hkn;have HO:=aA hown
    clear hown hcf;go_wp2;go_ret;exact⟨_,rfl,hB,HO.out⟩
theorem vK (c:Int) (f:Nat→T) (n i:Nat) (h:i<n):lf (CH c f n) i=⟨c*(f i).c%101,(f i).m⟩:=by simp[lf,CH,List.getD,List.getElem?_map,List.getElem?_range h]
def lL (g:Nat→T) (lb:Nat):Nat→T:=lf (CH 100 g lb)
def gI (f:Nat→T) (la:Nat) (g:Nat→T) (lb:Nat):List T×Bool:=
 if aH la f=true∧aH lb g=true∧(cV f la (lL g lb) lb 0 0).length≤400 then(cV f la (lL g lb) lb 0 0,true)else([],false)
theorem rV (f:Nat→T) (la:Nat) (g:Nat→T) (lb:Nat):(gI f la g lb).1.length≤400:=by
 unfold gI;split
 ·rename_i h;exact h.2.2
 ·simp
theorem vT {n:Nat} {f:Nat→T} (h:aH n f=true):∀i,i<n→(f i).m.ok=true:=by
 intro i hi;simp only[aH,decide_eq_true_eq]at h;have:=h.2 i hi
 simp only[fC,Bool.and_eq_true,decide_eq_true_eq]at this;exact this.1.2
def bU (n:Nat) (f:Nat→T):Bool:=aH n f&&decide (∀i,i<n→(f i).m.d+(f i).m.e≤0)
theorem yP (w:World) (a:Option Addr) (n cap:Nat) (f:Nat→T) (h:Rd w a n cap f):Calls Tryz.prog 103 #[.slice a n cap] w fun r w'=>r= .returned (.bool (bU n f))∧Below w.heap.size w w':=by
 have HR:=aA h;obtain⟨h1,h2,h3⟩:=h;have hn:(n:Int)≤140737488351232:=by omega
 cases hp:aH n f
 ·have e1:bU n f=false:=by simp[bU,hp]
  rw[e1];clear e1 h3;go_enter Tryz.func103,Tryz.ntmps103;go_wp2_with fail;refine(aY _ _ _ _ f HR.out).mono ?_;rw[hp];rintro r w1 ⟨rfl,hb⟩;go_wp2;go_ret;exact⟨rfl,hb⟩
 ·have HM:=aA (vT hp);go_enter Tryz.func103,Tryz.ntmps103;go_wp2_with fail;refine(aY _ _ _ _ f HR.out).mono ?_;rw[hp];rintro r w1 ⟨rfl,hb⟩;have HB1:=aA hb
  clear hb;go_wp2;go_loopw [3] (fun i wr=>∃k:Nat,k≤n∧i= .int .i64 k∧Below w.heap.size w wr∧Hid (∀j,j<k→(f j).m.d+(f j).m.e≤0)) (fun i _=>n-(intOf i).toNat);case atStart=>exact⟨0,gO _,rfl,HB1.out,fun j hj=>absurd hj (Nat.not_lt_zero _)⟩
  case round=>
   obtain⟨k,hk,rfl,hB,hok⟩:=hrel;by_cases hlt:k<n
   ·rcases h3 with h0|⟨b,off,rfl,hblt,hcl⟩
    ·omega
    have hkn:(k:Int)<(n:Int):=by omega
    have hbr:b<wr.heap.size:=eB hblt hB.size;have ne:=dQ.there wr
    have hck:=(hcl k hlt).below hB hblt;have s3:∀u:dQ wr,u.1.cell? ⟨b,off+k*5+3,none⟩=some (.int .i64 (f k).m.d):=fun u=>(u.cell hbr).trans hck.2.2.2.1
    have s4:∀u:dQ wr,u.1.cell? ⟨b,off+k*5+4,none⟩=some (.int .i64 (f k).m.e):=fun u=>(u.cell hbr).trans hck.2.2.2.2;obtain⟨_,_,_,_,d1,d2,e1,e2⟩:=M.ok_iff.1 (HM.out k hlt);clear hck hcl;by_cases hq:0<(f k).m.d+(f k).m.e
    ·have HF:Hid (bU n f=false):=by
      show _=_;simp only[bU,hp,Bool.true_and,decide_eq_false_iff_not];intro hh;have:=hh k hlt
      omega
     have dq:decide (0<(f k).m.d+(f k).m.e)=true:=decide_eq_true hq;go_wp2_with fail;refine aR (by kernel_rfl) (by kernel_rfl) ?_;repeat(go_big_quiet_step (fail))
     refine wpQuiet_nil ?_;rintro _ ⟨u,rfl⟩;go_wp2;go_ret;exact⟨by rw[HF.out];rfl,hB.trans (u.2.mono hB.size)⟩
    ·have hok':Hid (∀j,j<k+1→(f j).m.d+(f j).m.e≤0):=fun j hj=>by
      by_cases hjk:j=k
      ·rw[hjk];omega
      ·exact hok.out j (by omega)
     have dq:decide (0<(f k).m.d+(f k).m.e)=false:=decide_eq_false hq;clear hok;go_wp2_with fail;refine aR (by kernel_rfl) (by kernel_rfl) ?_;repeat(go_big_quiet_step (fail))
     refine wpQuiet_nil ?_;rintro _ ⟨u,rfl⟩;go_wp2;go_roundw;case rel=>exact⟨k+1,by omega,by go_num,hB.trans (u.2.mono hB.size),hok'⟩
     case measure=>simp[intOf];omega
   ·have HF:Hid (bU n f=true):=by show _=_;simp only[bU,hp,Bool.true_and,decide_eq_true_eq];exact fun i hi=>hok.out i (by omega)
    go_wp2;go_ret;exact⟨by rw[HF.out];rfl,hB⟩
def vD (a b:T):T:=⟨iF (iF a.c b.c) (iF (cU b.m.x a.m.d) (cU b.m.y a.m.e)),⟨b.m.x-a.m.d+a.m.x,b.m.y-a.m.e+a.m.y,0,0⟩⟩
abbrev DT:Type:={t:T // 0≤t.c∧t.c≤100∧t.m.d=0∧t.m.e=0}
def OZ (x:DT):Array Value:=#[.agg #[.int .i64 x.1.c,.int .i64 x.1.m.x,.int .i64 x.1.m.y,.int .i64 x.1.m.d,.int .i64 x.1.m.e]]
def LE (a b:T):DT:=⟨vD a b,(fV _ _).1,(fV _ _).2,rfl,rfl⟩
def NR (a b:T):List DT:=if b.m.x<a.m.d∨b.m.y<a.m.e then[]else[LE a b]
def bJ (a:T) (g:Nat→T):Nat→List DT
 |0=>[]
 |k+1=>bJ a g k++NR a (g k)
def bA (f g:Nat→T) (lb:Nat):Nat→List DT
 |0=>[]
 |i+1=>bA f g lb i++bJ (f i) g lb
theorem LF (a b:T):(NR a b).length≤1:=by unfold NR;split<;>simp
theorem pA (a:T) (g:Nat→T):∀k,(bJ a g k).length≤k
 |0=>Nat.le_refl _
 |k+1=>by have h1:=pA a g k;have h2:=LF a (g k);rw[bJ,List.length_append];omega
theorem sV (f g:Nat→T) (lb:Nat):∀i,(bA f g lb i).length≤i*lb
 |0=>gO _
 |i+1=>by have h1:=sV f g lb i;have h2:=pA (f i) g lb;rw[bA,List.length_append,Nat.succ_mul];omega
theorem uH        (a : T) (g : Nat → T) {k : Nat} : ∀ {j : Nat}, k ≤ j → bJ    a g k <+: bJ    a g j
  | 0, h => by obtain rfl : k = 0 := by omega
               exact List.prefix_refl _
  | j + 1, h => by
    by_cases e : k = j + 1
    · rw [e]
      exact List.prefix_refl _
    · exact (uH        a g (j := j) (by omega)).trans (List.prefix_append _ _)
theorem sW        (f g : Nat → T) (lb : Nat) {k : Nat} : ∀ {j : Nat}, k ≤ j → bA    f g lb k <+: bA    f g lb j
  | 0, h => by obtain rfl : k = 0 := by omega
               exact List.prefix_refl _
  | j + 1, h => by
    by_cases e : k = j + 1
    · rw [e]
      exact List.prefix_refl _
    · exact (sW        f g lb (j := j) (by omega)).trans (List.prefix_append _ _)
theorem uK (f g:Nat→T) (lb la:Nat) {i k:Nat} (hi:i<la) (hk:k≤lb):bA f g lb i++bJ (f i) g k<+:bA f g lb la:=by refine List.IsPrefix.trans ?_ (sW f g lb (k:=i+1) (j:=la) (by omega));rw[bA];exact(List.prefix_append_right_inj _).2 (uH _ _ hk)
def eD (L:List DT):Bool:=L.all (fun t=>t.1.m.ok)
theorem fS (L R:List DT):eD (L++R)=(eD L&&eD R):=by simp[eD]
theorem sX {L R:List DT} (h:L<+:R) (hL:eD L=false):eD R=false:=by obtain⟨X,rfl⟩:=h;rw[fS,hL];rfl
def fG (f:Nat→T) (la:Nat) (g:Nat→T) (lb:Nat):List T×Bool:=if aH la f=true∧bU lb g=true then(if eD (bA f g lb la)=true then(cA ((bA f g lb la).map (·.1)) [],true)else([],false))else([],false)
theorem AM {L:List DT} (h:eD L=true):QU (L.map (·.1)):=by
 intro t ht;obtain⟨x,hx,rfl⟩:=List.mem_map.1 ht;have hx2:=x.2
 exact⟨(List.all_eq_true.1 h) x hx,hx2.1,hx2.2.1⟩
theorem mG (m:M):∀(xs:List T) (c:M→Int),(∀t∈xs,t.m≠m)→dT c xs m=c m
 |[],c,_=>rfl
 |t::r,c,h=>by show dT (jA c t.m t.c) r m=_;rw[mG m r _ (fun s hs=>h s (List.mem_cons_of_mem _ hs)),mW (fun e=>h t (List.mem_cons_self ..) e.symm)]
theorem wZ {L:List T} (h:aX L) {t:T} (ht:t∈L):bN L t.m=t.c:=by
 induction L with
 |nil=>cases ht
 |cons s r ih=>
  rw[bN];rcases List.mem_cons.1 ht with rfl|ht'
  ·rw[if_pos (cC.2 rfl)]
  ·have h1:=(List.pairwise_cons.1 h.1).1 t ht';rw[if_neg (fun e=>by rw[cC.1 e]at h1;omega)];exact ih h.tail ht'
def allF:List M:=(List.range 16).flatMap fun(x:Nat)=>(List.range 16).map fun(y:Nat)=>(⟨(x:Int),(y:Int),0,0⟩:M)
theorem FC:allF.length=256:=by unfold allF;rw[jO 16 _ (fun x=>by simp)];simp
theorem FD {m:M} (h:m.ok=true) (hd:m.d=0) (he:m.e=0):m∈allF:=by obtain⟨x1,x2,y1,y2,d1,d2,e1,e2⟩:=M.ok_iff.1 h;unfold allF;refine List.mem_flatMap.2 ⟨m.x.toNat,List.mem_range.2 (by omega),List.mem_map.2 ⟨m.y.toNat,List.mem_range.2 (by omega),?_⟩⟩;cases m;simp only at x1 y1 hd he⊢;rw[Int.toNat_of_nonneg x1,Int.toNat_of_nonneg y1,hd,he]
theorem oN {L:List DT} (h:eD L=true):(cA (L.map (·.1)) []).length≤256:=by
 have hf:=eR (L.map (·.1)) [] (AM h) dN;have hnd:((cA (L.map (·.1)) []).map (·.m)).Nodup:=by rw[List.Nodup,List.pairwise_map];exact hf.1.1.imp (fun{a b} hab e=>by rw[e]at hab;omega)
 haveI:DecidableEq M:=fun a b=>Classical.propDecidable (a=b)
 have hl:=kJ ((cA (L.map (·.1)) []).map (·.m)) allF hnd (fun m hm=>by
  obtain⟨t,ht,rfl⟩:=List.mem_map.1 hm;have hr:=hf.1.2 t ht
  by_cases hx:∃s∈L.map (·.1),s.m=t.m
  ·obtain⟨s,hs,he⟩:=hx;obtain⟨x,_,rfl⟩:=List.mem_map.1 hs;have hx2:=x.2
   rw[←he]at hr⊢;exact FD hr.1 hx2.2.2.1 hx2.2.2.2
  ·exfalso;have h0:=wZ hf.1 ht
   rw[hf.2,mG t.m _ _ (fun s hs e=>hx ⟨s,hs,e⟩)]at h0;change (0:Int)=t.c at h0
   omega)
 rw[FC,List.length_map]at hl;exact hl
theorem uU (f:Nat→T) (la:Nat) (g:Nat→T) (lb:Nat):(fG f la g lb).1.length≤400:=by
 unfold fG;split
 ·split
  ·rename_i h;have:=oN h
   show(cA _ []).length≤400;omega
  ·simp
 ·simp
theorem yU (xs:List T) (t:T) (L:List T):cA (xs++[t]) L=iY t.c t.m (cA xs L):=by simp[cA]
theorem uW (xs:List T) (t:T) (c:M→Int):dT c (xs++[t])=jA (dT c xs) t.m t.c:=by simp[dT]
end Go.Proofs.YtkcmamepoplcdaaGreatDoor
