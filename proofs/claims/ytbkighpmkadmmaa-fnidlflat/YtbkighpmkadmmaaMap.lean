/-
  What is left of a pair of operators: the program and the model.
-/
import Derived.Test.YtbkighpmkadmmaaMao
import Derived.Shelf.Abstract
set_option maxHeartbeats 8000000
set_option maxRecDepth 100000
namespace Go.Proofs.Ytbkighpmkadmmaa
open Go.RowKit Go.Deep Go.Joins
set_option linter.unusedVariables false
theorem FD (w:World) (o:Int) (a b:Option Addr) (n ca m cb:Nat) (f g:Nat→T) (ha:Rd w a n ca f) (hb:Rd w b m cb g):Calls Try.prog 107 #[.int .i64 o,.slice a n ca,.slice b m cb] w fun r w'=>∃v,r= .returned (.tuple #[v,.bool (cE o f n g m).2])∧Below w.heap.size w w'∧w'.ownsRow w.heap.size 33 5 v (cE o f n g m).1.length (aG (cE o f n g m).1):=by
 have HA:=aA ha;have HB:=aA hb
 have hla:(n:Int)≤140737488351232:=by have:=ha.2.1;omega
 have hlb:(m:Int)≤140737488351232:=by have:=hb.2.1;omega
 have hcall:=rQ w o a n ca f b m cb g ha hb;clear ha hb;unfold cE;obtain⟨U,hU⟩:∃U,cV o n f m g=U:=⟨_,rfl⟩
 obtain⟨V,hV⟩:∃V,cW o n f m g=V:=⟨_,rfl⟩
 cases hok:dC o n f m g
 ·rw[hU,hV,hok]at hcall;rw[if_neg (by simp)];clear hU hV hok;go_enter Try.func107,Try.ntmps107;go_wp2_with fail;refine hcall.mono ?_;rintro r w1 ⟨rfl,hb1⟩;have HB1:=aA hb1
  clear hb1 hcall;have HB2:=aA (HB1.out.alloc HB1.out.size (.cells #[.int .i64 U.c,.int .i64 U.m.x,.int .i64 U.m.y,.int .i64 U.m.d,.int .i64 U.m.e] 33))
  have HB3:=aA (HB2.out.alloc HB2.out.size (.cells #[.int .i64 V.c,.int .i64 V.m.x,.int .i64 V.m.y,.int .i64 V.m.d,.int .i64 V.m.e] 33));have hnn:=bL ((w1.alloc (.cells #[.int .i64 U.c,.int .i64 U.m.x,.int .i64 U.m.y,.int .i64 U.m.d,.int .i64 U.m.e] 33)).alloc (.cells #[.int .i64 V.c,.int .i64 V.m.x,.int .i64 V.m.y,.int .i64 V.m.d,.int .i64 V.m.e] 33)) w.heap.size HB3.out.size
  rw[World.size_alloc,World.size_alloc]at hnn;have HNN:=aA hnn
  clear hnn;go_wp2;refine cN (results_tmp2 rfl _ _ _) rfl ?_;exact⟨_,rfl,HB3.out.alloc HB3.out.size _,HNN.out⟩
 ·obtain⟨gU,gV⟩:=nC hok;have hk:=hok
  unfold dC at hk;rw[Bool.and_eq_true]at hk;have p1:=(gM hk.1).2.1
  have p2:=(gM hk.2).2.1;rw[hU]at gU;rw[hV]at gV;rw[hU,hV,hok]at hcall;rw[if_pos rfl,hU,hV,AW gU gV p1 p2];obtain⟨l1,g1⟩:=bG p1;have gs:jC (lf [U]) 1:=fun i hi=>by
   obtain rfl:i=0:=by omega
   exact⟨gU.1,by show 0≤U.c;omega,gU.2.2⟩
  have hm:=fun(W:World) (A:Nat) (h:RL W (some ⟨A,0,none⟩) 1 [U]) (h':Rd W a n ca f)=>DS W (some ⟨A,0,none⟩) a 1 1 n ca (lf [U]) f h h' (by omega) l1 gs g1;have HGS:=aA gs
  have HG1:=aA g1;have HP2:=aA p2
  have HGV:=aA gV;clear hU hV hok hk gU gV gs g1 p1 p2;cases hX:bR (lf [U]) f n 1 with
  |none=>
   rw[hX]at hm;simp only[jM]at hm;go_enter Try.func107,Try.ntmps107;go_wp2_with fail;refine hcall.mono ?_;rintro r w1 ⟨rfl,hb1⟩;have HB1:=aA hb1
   clear hb1 hcall;have HB2:=aA (HB1.out.alloc HB1.out.size (.cells #[.int .i64 U.c,.int .i64 U.m.x,.int .i64 U.m.y,.int .i64 U.m.d,.int .i64 U.m.e] 33))
   have HB3:=aA (HB2.out.alloc HB2.out.size (.cells #[.int .i64 V.c,.int .i64 V.m.x,.int .i64 V.m.y,.int .i64 V.m.d,.int .i64 V.m.e] 33));have HB4:=aA (HB3.out.alloc HB3.out.size (.cells #[.int .i64 U.c,.int .i64 U.m.x,.int .i64 U.m.y,.int .i64 U.m.d,.int .i64 U.m.e] 33))
   have hru:=eT ((w1.alloc (.cells #[.int .i64 U.c,.int .i64 U.m.x,.int .i64 U.m.y,.int .i64 U.m.d,.int .i64 U.m.e] 33)).alloc (.cells #[.int .i64 V.c,.int .i64 V.m.x,.int .i64 V.m.y,.int .i64 V.m.d,.int .i64 V.m.e] 33)) U;rw[World.size_alloc,World.size_alloc]at hru;have HRU:=aA hru
   clear hru;go_wp2_with fail;refine(hm _ _ HRU.out (HA.out.below HB4.out)).mono ?_;rintro r w2 ⟨v2,rfl,hb2,ho2⟩;have HB5:=aA (aB HB4.out hb2)
   clear hb2 ho2 hm;go_wp2;refine cN (results_tmp2 rfl _ _ _) rfl ?_;exact⟨_,rfl,HB5.out.alloc HB5.out.size _,bL _ w.heap.size HB5.out.size⟩
  |some X=>
   have fX:=bM HGS.out HG1.out 1 X (Nat.le_refl _) hX;have lX:=eD 1 X hX
   have HFX:=aA fX;rw[hX]at hm;simp only[jM]at hm;have hless:=fun(W:World) (pa:Option Addr) (pc:Nat) (h:RL W pa pc X) (h':Rd W b m cb g)=>yW W pa pc X V b m cb g h lX HFX.out HGV.out h' HP2.out
   dsimp only;generalize iV X V g m=D at hless⊢;clear fX hX;go_enter Try.func107,Try.ntmps107;go_wp2_with fail;refine hcall.mono ?_;rintro r w1 ⟨rfl,hb1⟩;have HB1:=aA hb1
   clear hb1 hcall;have HB2:=aA (HB1.out.alloc HB1.out.size (.cells #[.int .i64 U.c,.int .i64 U.m.x,.int .i64 U.m.y,.int .i64 U.m.d,.int .i64 U.m.e] 33))
   have HC3:=aA (C5.box (w1.alloc (.cells #[.int .i64 U.c,.int .i64 U.m.x,.int .i64 U.m.y,.int .i64 U.m.d,.int .i64 U.m.e] 33)) 33 V);have HB3:=aA (HB2.out.alloc HB2.out.size (.cells #[.int .i64 V.c,.int .i64 V.m.x,.int .i64 V.m.y,.int .i64 V.m.d,.int .i64 V.m.e] 33))
   have HB4:=aA (HB3.out.alloc HB3.out.size (.cells #[.int .i64 U.c,.int .i64 U.m.x,.int .i64 U.m.y,.int .i64 U.m.d,.int .i64 U.m.e] 33));have hru:=eT ((w1.alloc (.cells #[.int .i64 U.c,.int .i64 U.m.x,.int .i64 U.m.y,.int .i64 U.m.d,.int .i64 U.m.e] 33)).alloc (.cells #[.int .i64 V.c,.int .i64 V.m.x,.int .i64 V.m.y,.int .i64 V.m.d,.int .i64 V.m.e] 33)) U
   rw[World.size_alloc,World.size_alloc]at hru;have HRU:=aA hru
   clear hru;go_wp2_with fail;refine(hm _ _ HRU.out (HA.out.below HB4.out)).mono ?_;rintro r w2 ⟨v2,rfl,hb2,ho2⟩;obtain⟨a2,c2,rfl,hout⟩:=aI ho2 (by omega);have HB5:=aA (aB HB4.out hb2)
   have hC5:=(HC3.out.below (aC _ (.cells #[.int .i64 U.c,.int .i64 U.m.x,.int .i64 U.m.y,.int .i64 U.m.d,.int .i64 U.m.e] 33))).below hb2;have HX2:=aA hout.1
   rw[World.size_alloc]at hC5;obtain⟨r0,r1,r2,r3,r4⟩:=hC5;clear hb2 ho2 hm hout;go_wp2_with fail;clear r0 r1 r2 r3 r4;refine(hless _ _ _ HX2.out (HB.out.below HB5.out)).mono ?_;rintro r w3 ⟨v3,rfl,hb3,ho3⟩;have HB6:=aA (aB HB5.out hb3)
   have HO6:=aA (iG ho3 HB5.out.size);clear hb3 ho3;go_wp2;refine cN (results_tmp2 rfl _ _ _) rfl ?_;exact⟨_,rfl,HB6.out,HO6.out⟩
end Go.Proofs.Ytbkighpmkadmmaa
namespace Go.Proofs.Ytbkighpmkadmmaa
open Go.RowKit
set_option linter.unusedVariables false
theorem vV (φ:M→Fq) {K:List T} {a:T} {f:Nat→T} {lb:Nat} (hK:aJ K) (ha:a.m.ok=true∧0≤a.c∧a.c≤100) (hg:jC f lb):∀k K',k≤lb→dU K a f k=some K'→iE φ K'=iE φ K+su (List.range k) (fun j=>iE φ (bP a (f j)))
 |0,K',_,h=>by cases h;show _=iE φ K+0;grind
 |k+1,K',hk,h=>by
  rw[dU]at h;cases hr:dU K a f k with
  |none=>rw[hr]at h;cases h
  |some K1=>
   rw[hr]at h;change eM K1 a (f k)=some K' at h;have h1:=vV φ hK ha hg k K1 (by omega) hr
   have hf1:=fU hK ha hg k K1 (by omega) hr;unfold eM at h;split at h
   ·rename_i hok;cases h;have h2:=hg k (by omega)
    have tw:oV a (f k) (a.m.sum (f k).m):=⟨ha.1,h2.1,hok.1,rfl,rfl,rfl,rfl,ha.2,h2.2⟩
    rw[yZ φ hf1 (dO tw).1,h1,List.range_succ,gS];show _=_+(_+(_+0))
    grind
   ·cases h
theorem vW {K:List T} {a:T} {f:Nat→T}:∀k K',dU K a f k=some K'→∀j,j<k→(a.m.sum (f j).m).ok=true
 |0,_,_,j,hj=>by omega
 |k+1,K',h,j,hj=>by
  rw[dU]at h;cases hr:dU K a f k with
  |none=>rw[hr]at h;cases h
  |some K1=>
   rw[hr]at h;change eM K1 a (f k)=some K' at h;unfold eM at h;split at h
   ·rename_i hok;by_cases e:j=k
    ·rw[e];exact hok.1
    ·exact vW k K1 hr j (by omega)
   ·cases h
theorem qA (φ:M→Fq) {f f':Nat→T} {la lb:Nat} (hf:jC f la) (hg:jC f' lb):∀i K,i≤la→bR f f' lb i=some K→iE φ K=su (List.range i) (fun k=>su (List.range lb) (fun j=>iE φ (bP (f k) (f' j))))∧∀k,k<i→∀j,j<lb→((f k).m.sum (f' j).m).ok=true
 |0,K,_,h=>by cases h;exact⟨rfl,fun k hk=>by omega⟩
 |i+1,K,hi,h=>by
  rw[bR]at h;cases hr:bR f f' lb i with
  |none=>rw[hr]at h;cases h
  |some K1=>
   rw[hr]at h;have h1:=qA φ hf hg i K1 (by omega) hr
   refine⟨?_,fun k hk j hj=>?_⟩
   ·rw[vV φ (bM hf hg i K1 (by omega) hr) (hf i (by omega)) hg lb K (Nat.le_refl _) h,h1.1,List.range_succ,gS];show _=_+(_+0)
    grind
   ·by_cases e:k=i
    ·rw[e];exact vW lb K h j hj
    ·exact h1.2 k (by omega) j hj
theorem FG (L:List T) (f:T→Fq):su L f=su (List.range L.length) (fun i=>f (lf L i)):=by
 have e:L=(List.range L.length).map (lf L):=by refine List.ext_getElem (by simp) (fun i h1 h2=>?_);rw[List.getElem_map,List.getElem_range,fM h1]
 have:=oE (lf L) f (List.range L.length);rw[←e]at this;exact this
theorem tZ {A B P:List T} (h:mD A B=(P,true)):(∀φ,iE φ P=su A (fun a=>su B (fun b=>iE φ (bP a b))))∧∀a∈A,∀b∈B,(a.m.sum b.m).ok=true:=by
 unfold mD cJ at h;split at h
 ·rename_i hok;obtain⟨l1,g1⟩:=bG hok.1;obtain⟨l2,g2⟩:=bG hok.2;cases hm:bR (lf A) (lf B) B.length A.length with
  |none=>rw[hm]at h;simp[jM]at h
  |some K=>
   rw[hm]at h;have e:K=P:=by simpa[jM]using h
   refine⟨fun φ=>?_,fun a ha b hb=>?_⟩
   ·rw[←e,(qA φ g1 g2 _ K (Nat.le_refl _) hm).1,FG A];refine cF (fun i _=>?_);rw[FG B]
   ·obtain⟨i,hi,rfl⟩:=List.mem_iff_getElem.1 ha;obtain⟨j,hj,rfl⟩:=List.mem_iff_getElem.1 hb;have:=(qA (fun _=>0) g1 g2 _ K (Nat.le_refl _) hm).2 i hi j hj
    rwa[fM hi,fM hj]at this
 ·simp at h
def Wt (W:M→Int):Prop:=∀(a b:M) (i k:Nat),W ⟨a.x+b.x-i,a.y+b.y-k,a.d+b.d-i,a.e+b.e-k⟩≤W a+W b-i-k∧W (a.sum b)=W a+W b
theorem DZ (φ:M→Fq) {a b:T} {m:M} (h:oV a b m):iE φ (bP a b)=su (List.range (dJ a b+1)) (fun i=>su (List.range (eR a b+1)) (fun k=>zz (iI a b i k).c*φ (iI a b i k).m)):=by
 show iE φ (cT (cK a b (dJ a b+1)) [])=_;rw[lV _ _ (mM h) dE,sS];unfold iE cK iM;rw[tS];have z:∀x:Fq,0+x=x:=by intro x;grind
 rw[z];refine cF (fun i _=>?_);rw[oE]
theorem qH (f:Nat→Fq):∀n,(∀i,0<i→f i=0)→su (List.range (n+1)) f=f 0
 |0,_=>by show f 0+0=f 0;grind
 |n+1,h=>by
  rw[List.range_succ,gS,qH f n h];show f 0+(f (n+1)+0)=f 0
  rw[h (n+1) (by omega)];grind
theorem AB {d x:Int} (d0:0≤d) (d1:d≤15) (x0:0≤x) (x1:x≤15):zz (wy d x 0)=1:=by
 have h:=FW (d:=d) (x:=x) (i:=0) d0 d1 x0 x1 (by omega) (by omega);have e:((0:Nat):Int)=0:=rfl
 rw[e]at h;rw[h];unfold wN;rw[pM];rfl
theorem EA {W:M→Int} (hW:Wt W) (φ:M→Fq) {a b:T} {m:M} (h:oV a b m) {n:Int} (hn:W a.m+W b.m≤n) (hφ:∀m,W m<n→φ m=0):iE φ (bP a b)=zz a.c*zz b.c*φ (a.m.sum b.m):=by
 obtain⟨ax0,ax1,ay0,ay1,ad0,ad1,ae0,ae1⟩:=M.ok_iff.1 h.ok1;obtain⟨bx0,bx1,by0,by1,bd0,bd1,be0,be1⟩:=M.ok_iff.1 h.ok2;have zr:∀x:Fq,x*0=0:=by intro x;grind
 have low:∀i k:Nat,0<i+k→φ (iI a b i k).m=0:=fun i k hik=>by
  have:=(hW a.m b.m i k).1;refine hφ _ ?_;show W ⟨a.m.x+b.m.x-i,a.m.y+b.m.y-k,a.m.d+b.m.d-i,a.m.e+b.m.e-k⟩<n
  omega
 rw[DZ φ h,qH _ _ (fun i hi=>jS _ _ (fun k _=>by rw[low i k (by omega),zr])),qH _ _ (fun k hk=>by rw[low 0 k (by omega),zr])];have e:(iI a b 0 0).m=a.m.sum b.m:=by
  show(⟨a.m.x+b.m.x-((0:Nat):Int),a.m.y+b.m.y-((0:Nat):Int),a.m.d+b.m.d-((0:Nat):Int),a.m.e+b.m.e-((0:Nat):Int)⟩:M)=⟨a.m.x+b.m.x,a.m.y+b.m.y,a.m.d+b.m.d,a.m.e+b.m.e⟩
  simp
 rw[e];congr 1;show zz (a.c*b.c%101*wy a.m.d b.m.x ((0:Nat):Int)%101*wy a.m.e b.m.y ((0:Nat):Int)%101)=_
 have e0:((0:Nat):Int)=0:=rfl;rw[e0,gF,iP,gF,iP,gF,iP,AB ad0 ad1 bx0 bx1,AB ae0 ae1 by0 by1]
 grind
theorem LB {A B P:List T} (h:mD A B=(P,true)) {a b:T} (ha:a∈A) (hb:b∈B):oV a b (a.m.sum b.m):=by
 obtain⟨oA,oB⟩:=tW h;have r1:=(aH oA).2.2 a ha
 have r2:=(aH oB).2.2 b hb;exact⟨r1.1,r2.1,(tZ h).2 a ha b hb,rfl,rfl,rfl,rfl,⟨by omega,r1.2.2⟩,by omega,r2.2.2⟩
theorem LD {W:M→Int} (hW:Wt W) {A B P:List T} (h:mD A B=(P,true)) {n:Int} (hn:∀a∈A,∀b∈B,W a.m+W b.m≤n) (φ:M→Fq) (hφ:∀m,W m<n→φ m=0):iE φ P=su A (fun a=>su B (fun b=>zz a.c*zz b.c*φ (a.m.sum b.m))):=by rw[(tZ h).1];refine cF (fun a ha=>cF (fun b hb=>?_));exact EA hW φ (LB h ha hb) (hn a ha b hb) hφ
def dl (m:M) (x:M):Fq:=if eH m x=true then 1 else 0
theorem KM {P:List T} (hP:aJ P) {m:M} (hm:m.ok=true):iE (dl m) P=zz (aQ P m):=by
 rw[jL _ hP];have e:su box (fun x=>zz (aQ P x)*dl m x)=su box (fun x=>if eH m x=true then zz (aQ P m)else 0):=by
  refine cF (fun x _=>?_);unfold dl;by_cases h:eH m x=true
  ·rw[if_pos h,if_pos h,bY.1 h];grind
  ·rw[if_neg h,if_neg h];grind
 rw[e,lC m _ box nI (sF hm)]
theorem qY {W:M→Int} (hW:Wt W) (hinj:∀a b:M,a.ok=true→b.ok=true→W a=W b→a=b) {A B P:List T} (h:mD A B=(P,true)) {a0 b0:T} (ha0:a0∈A) (hb0:b0∈B) (hA:∀a∈A,W a.m≤W a0.m) (hB:∀b∈B,W b.m≤W b0.m):(⟨a0.c*b0.c%101,a0.m.sum b0.m⟩:T)∈P∧∀t∈P,W t.m≤W (a0.m.sum b0.m):=by
 obtain⟨oA,oB⟩:=tW h;have fA:=(aH oA).2
 have fB:=(aH oB).2;have fP:=jB h
 have ra:=fA.2 a0 ha0;have rb:=fB.2 b0 hb0
 have hs:=(tZ h).2 a0 ha0 b0 hb0;have hsum:=(hW a0.m b0.m 0 0).2
 have key:∀m:M,m.ok=true→W (a0.m.sum b0.m)≤W m→zz (aQ P m)=zz a0.c*zz b0.c*dl m (a0.m.sum b0.m):=fun m hm hle=>by
  rw[←KM fP hm,LD hW h (n:=W a0.m+W b0.m) (fun a ha b hb=>by have:=hA a ha;have:=hB b hb;omega) (dl m) (fun x hx=>by
   unfold dl;rw[if_neg];intro e;rw[bY.1 e]at hle
   omega)]
  have zr:∀x:Fq,x*0=0:=by intro x;grind
  have off:∀a∈A,∀b∈B,(a.m≠a0.m∨b.m≠b0.m)→dl m (a.m.sum b.m)=0:=fun a ha b hb hne=>by
   unfold dl;rw[if_neg];intro e;rw[bY.1 e,(hW a.m b.m 0 0).2]at hle;have h1:=hA a ha
   have h2:=hB b hb;rcases hne with hne|hne
   ·exact hne (hinj _ _ (fA.2 a ha).1 ra.1 (by omega))
   ·exact hne (hinj _ _ (fB.2 b hb).1 rb.1 (by omega))
  rw[qG fA ha0 (fun a ha hne=>jS _ _ (fun b hb=>by rw[off a ha b hb (.inl hne),zr])),qG fB hb0 (fun b hb hne=>by rw[off a0 ha0 b hb (.inr hne),zr])]
 have c0:aQ P (a0.m.sum b0.m)=a0.c*b0.c%101:=by
  have h1:=key _ hs (Int.le_refl _);have e1:dl (a0.m.sum b0.m) (a0.m.sum b0.m)=1:=by unfold dl;rw[if_pos (bY.2 rfl)]
  rw[e1]at h1;have h2:zz (aQ P (a0.m.sum b0.m))=zz (a0.c*b0.c%101):=by rw[h1,gF,iP];grind
  exact FV (eF fP _) ⟨by omega,by omega⟩ h2
 have cne:a0.c*b0.c%101≠0:=by
  have:=yN (a:=a0.c) (b:=b0.c) (by omega) (by omega) (by omega) (by omega)
  rwa[fF (by omega) ra.2.2 (by omega) rb.2.2]at this
 have mem:∀X:List T,∀m,aQ X m≠0→∃s∈X,s.m=m∧s.c=aQ X m:=fun X m=>by
  induction X with
  |nil=>intro h;exact absurd rfl h
  |cons s r ih=>
   intro h;rw[aQ]at h⊢;by_cases e:eH s.m m=true
   ·exact⟨s,List.mem_cons_self ..,bY.1 e,by rw[if_pos e]⟩
   ·rw[if_neg e]at h⊢;obtain⟨x,hx,he⟩:=ih h;exact⟨x,List.mem_cons_of_mem _ hx,he⟩
 refine⟨?_,fun t ht=>?_⟩
 ·obtain⟨s,hs1,hs2,hs3⟩:=mem P (a0.m.sum b0.m) (by rw[c0];exact cne);have:s=⟨a0.c*b0.c%101,a0.m.sum b0.m⟩:=by cases s;simp only at hs2 hs3;rw[hs2,hs3,c0]
  rw[←this];exact hs1
 ·have rt:=fP.2 t ht;by_cases hle:W t.m≤W (a0.m.sum b0.m)
  ·exact hle
  ·exfalso;have h1:=key t.m rt.1 (by omega)
   have e1:dl t.m (a0.m.sum b0.m)=0:=by unfold dl;rw[if_neg];intro e;rw[bY.1 e]at hle;exact hle (Int.le_refl _)
   rw[e1]at h1;have ht2:aQ P t.m=t.c:=by
    have hp:∀X:List T,aJ X→t∈X→aQ X t.m=t.c:=fun X hX hx=>by
     induction X with
     |nil=>cases hx
     |cons s r ih=>
      rw[aQ];rcases List.mem_cons.1 hx with rfl|hx'
      ·rw[if_pos (bY.2 rfl)]
      ·have h1:=(List.pairwise_cons.1 hX.1).1 t hx';rw[if_neg (fun e=>by rw[bY.1 e]at h1;omega)];exact ih hX.tail hx'
    exact hp P fP ht
   rw[ht2]at h1;exact JX rt.2.1 rt.2.2 (by rw[h1];grind)
def gI (o:Int) (m:M):Int:=if o=1 then fW m else if o=3 then uB m else eI m
theorem tH {o:Int} {a b:M} (ho:1≤o∧o≤3) (ha:a.ok=true) (hb:b.ok=true):M.ord o a b=c3 (gI o a) (gI o b):=by
 obtain⟨h1,h2⟩:=ho;have h:o=1∨o=2∨o=3:=by omega
 rcases h with rfl|rfl|rfl
 ·rw[←qC ha hb];simp[gI]
 ·rw[←xW ha hb];simp[gI]
 ·rw[←xV ha hb];simp[gI]
theorem tJ (o:Int):Wt (gI o):=fun a b i k=>by
 unfold gI fW uB eI M.sum;split
 ·simp only;omega
 ·split
  ·simp only;omega
  ·simp only;omega
theorem CJ {a b c d:Int} (hb:0≤b∧b≤15) (hd:0≤d∧d≤15) (h:a*16+b=c*16+d):a=c∧b=d:=by omega
theorem JR {a b c d:Int} (hb:0≤b∧b≤65535) (hd:0≤d∧d≤65535) (h:a*65536+b=c*65536+d):b=d:=by omega
theorem zN {a:M} (ha:a.ok=true):0≤eI a∧eI a≤65535:=by obtain⟨x1,x2,y1,y2,d1,d2,e1,e2⟩:=M.ok_iff.1 ha;unfold eI;omega
theorem ER {a b:M} (ha:a.ok=true) (hb:b.ok=true) (h:eI a=eI b):a=b:=by
 obtain⟨x1,x2,y1,y2,d1,d2,e1,e2⟩:=M.ok_iff.1 ha;obtain⟨x3,x4,y3,y4,d3,d4,e3,e4⟩:=M.ok_iff.1 hb;unfold eI at h;have k1:=CJ ⟨y1,y2⟩ ⟨y3,y4⟩ h
 have k2:=CJ ⟨x1,x2⟩ ⟨x3,x4⟩ k1.1;have k3:=CJ ⟨e1,e2⟩ ⟨e3,e4⟩ k2.1
 have q1:=k1.2;have q2:=k2.2
 have q3:=k3.2;have q4:=k3.1
 revert q1 q2 q3 q4
 cases a;cases b;intro q1 q2 q3 q4;simp only at q1 q2 q3 q4;rw[q1,q2,q3,q4]
theorem nB {o:Int} (a b:M) (ha:a.ok=true) (hb:b.ok=true) (h:gI o a=gI o b):a=b:=by
 refine ER ha hb ?_;have ba:=zN ha
 have bb:=zN hb;unfold gI at h;split at h
 ·exact JR ba bb h
 ·split at h
  ·exact JR ba bb h
  ·exact h
theorem KD {a b:Int}:0<c3 a b↔b<a:=by unfold c3;split<;>(try split)<;>omega
theorem nQ {o:Int} {f:Nat→T} {n:Nat} (ho:1≤o∧o≤3) (hm:∀i,i<n→(f i).m.ok=true):∀(u i k:Nat),i+u≤n→k<n→aR o f u i k<n∧gI o (f k).m≤gI o (f (aR o f u i k)).m∧∀j,i≤j→j<i+u→gI o (f j).m≤gI o (f (aR o f u i k)).m
 |0,i,k,_,hk=>⟨hk,Int.le_refl _,fun j h1 h2=>by omega⟩
 |u+1,i,k,hi,hk=>by
  have hc:=KD (a:=gI o (f i).m) (b:=gI o (f k).m);rw[←tH ho (hm i (by omega)) (hm k hk)]at hc;simp only[aR];split
  ·rename_i h;obtain⟨h1,h2,h3⟩:=nQ ho hm u (i+1) i (by omega) (by omega);have h4:=hc.1 h
   refine⟨h1,by omega,fun j hj1 hj2=>?_⟩;by_cases hji:j=i
   ·rw[hji];exact h2
   ·exact h3 j (by omega) (by omega)
  ·rename_i h;obtain⟨h1,h2,h3⟩:=nQ ho hm u (i+1) k (by omega) hk;have h4:¬gI o (f k).m<gI o (f i).m:=fun q=>h (hc.2 q)
   refine⟨h1,h2,fun j hj1 hj2=>?_⟩;by_cases hji:j=i
   ·rw[hji];omega
   ·exact h3 j (by omega) (by omega)
def lR (o:Int) (L:List T):T:=bB o L.length (lf L)
def sR (o:Int) (L:List T):Bool:=aX o L.length (lf L)
theorem gL {o:Int} {L:List T}:sR o L=true↔(1≤o∧o≤3)∧bZ L=true∧L≠[]:=by
 unfold sR aX;rw[Bool.and_eq_true,Bool.and_eq_true,decide_eq_true_eq,decide_eq_true_eq];constructor
 ·rintro⟨⟨h1,h2⟩,h3⟩;exact⟨h1,h2,fun e=>by rw[e]at h3;simp at h3⟩
 ·rintro⟨h1,h2,h3⟩;exact⟨⟨h1,h2⟩,List.length_pos_iff.2 h3⟩
theorem nN {o:Int} {L:List T} (h:sR o L=true):lR o L∈L∧∀t∈L,gI o t.m≤gI o (lR o L).m:=by
 obtain⟨ho,oL,hne⟩:=gL.1 h;have hpos:=List.length_pos_iff.2 hne
 have fl:=fI (show aL L.length (lf L)=true from oL);have e:lR o L=lf L (aP o (lf L) L.length):=cS h
 have hm:∀i,i<L.length→(lf L i).m.ok=true:=fun i hi=>(fl.2 i hi).1;have key:=nQ (o:=o) (f:=lf L) (n:=L.length) ho hm (L.length-1) 1 0 (by omega) hpos
 have e2:aP o (lf L) L.length=aR o (lf L) (L.length-1) 1 0:=rfl;rw[e,e2];refine⟨?_,fun t ht=>?_⟩
 ·rw[fM key.1];exact List.getElem_mem _
 ·obtain⟨i,hi,rfl⟩:=List.mem_iff_getElem.1 ht;by_cases h0:i=0
  ·subst h0;have:=key.2.1
   rwa[fM hpos]at this
  ·have:=key.2.2 i (by omega) (by omega)
   rwa[fM hi]at this
theorem FS {B P:List T} (h:mD [] B=(P,true)):P=[]:=by have h1:=nH tQ h;rw[jZ,Lq.nil_mul]at h1;exact nT (jB h) h1
theorem FT {A P:List T} (h:mD A []=(P,true)):P=[]:=by have h1:=nH tQ h;rw[jZ,Lq.mul_nil]at h1;exact nT (jB h) h1
theorem DC (o:Int):sR o []=false:=by
 cases h:sR o []
 ·rfl
 ·exact absurd rfl (gL.1 h).2.2
theorem GZ {o:Int} (ho:1≤o∧o≤3) {A B P:List T} (h:mD A B=(P,true)):sR o P=(sR o A&&sR o B)∧(sR o A=true→sR o B=true→M.mul ⟨(lR o A).m.x,(lR o A).m.y,(lR o A).m.d,(lR o A).m.e⟩ ⟨(lR o B).m.x,(lR o B).m.y,(lR o B).m.d,(lR o B).m.e⟩=((lR o P).m,true)∧lO (lR o A).c (lR o B).c=(lR o P).c):=by
 obtain⟨oA,oB⟩:=tW h;cases hA:sR o A
 ·have eA:A=[]:=by
   by_cases e:A=[]
   ·exact e
   ·rw[gL.2 ⟨ho,oA,e⟩]at hA;cases hA
  subst eA;rw[FS h,DC];exact⟨rfl,fun q=>by cases q⟩
 ·cases hB:sR o B
  ·have eB:B=[]:=by
    by_cases e:B=[]
    ·exact e
    ·rw[gL.2 ⟨ho,oB,e⟩]at hB;cases hB
   subst eB;rw[FT h,DC];exact⟨rfl,fun _ q=>by cases q⟩
  ·obtain⟨a1,a2⟩:=nN hA;obtain⟨b1,b2⟩:=nN hB;have hp:=qY (tJ o) nB h a1 b1 a2 b2
   have hne:P≠[]:=fun e=>by rw[e]at hp;cases hp.1
   have hP:sR o P=true:=gL.2 ⟨ho,rV h,hne⟩;refine⟨hP,fun _ _=>?_⟩;obtain⟨p1,p2⟩:=nN hP;have fP:=jB h
   have r1:=fP.2 _ p1;have hs:=(tZ h).2 _ a1 _ b1
   have l1:=hp.2 _ p1;have l2:=p2 _ hp.1
   dsimp only at l2;have em:(lR o P).m=(lR o A).m.sum (lR o B).m:=by refine nB (o:=o) _ _ r1.1 hs ?_;exact Int.le_antisymm l1 l2
   have ra:=(aH oA).2.2 _ a1;have rb:=(aH oB).2.2 _ b1
   have ec:(lR o P).c=(lR o A).c*(lR o B).c%101:=by
    have h1:∀X:List T,aJ X→∀t∈X,∀s∈X,t.m=s.m→t=s:=fun X hX=>by
     induction X with
     |nil=>intro t ht;cases ht
     |cons z r ih=>
      intro t ht s hs e;have hp:=(List.pairwise_cons.1 hX.1).1
      rcases List.mem_cons.1 ht with rfl|ht'
      ·rcases List.mem_cons.1 hs with rfl|hs'
       ·rfl
       ·have:=hp s hs';rw[e]at this;omega
      ·rcases List.mem_cons.1 hs with rfl|hs'
       ·have:=hp t ht';rw[e]at this;omega
       ·exact ih hX.tail t ht' s hs' e
    rw[h1 P fP _ p1 _ hp.1 em]
   refine⟨?_,?_⟩
   ·rw[em];have e3:∀m:M,(⟨m.x,m.y,m.d,m.e⟩:M)=m:=fun m=>by cases m;rfl
    rw[e3,e3];unfold M.mul;simp[ra.1,rb.1,hs]
   ·rw[ec,fF (by omega) ra.2.2 (by omega) rb.2.2]
theorem jF {m:M}:∀{L:List T},aQ L m≠0→∃t∈L,t.m=m
 |[],h=>absurd rfl h
 |t::r,h=>by
  rw[aQ]at h;split at h
  ·rename_i he;exact⟨t,List.mem_cons_self ..,bO.1 he⟩
  ·obtain⟨s,hs,e⟩:=jF h;exact⟨s,List.mem_cons_of_mem _ hs,e⟩
theorem rG {L:List T} (h:aJ L) {t:T} (ht:t∈L):aQ L t.m=t.c∧aQ L t.m≠0:=by
 have h1:aQ L t.m=t.c:=by
  induction L with
  |nil=>cases ht
  |cons s r ih=>
   rw[aQ];rcases List.mem_cons.1 ht with rfl|ht'
   ·rw[if_pos (bO.2 rfl)]
   ·have h1:=h.head t ht';rw[if_neg (fun e=>by rw[bO.1 e]at h1;omega)];exact ih h.tail ht'
 have h2:=h.2 t ht;exact⟨h1,by omega⟩
theorem IL {a c b:M} (h:M.mul a c=(b,true)):b.ok=true:=by
 unfold M.mul at h;split at h
 ·rename_i q;cases h;exact q.2.2
 ·cases h
theorem iN {o:Int} {A B L:List T} (h:cE o (lf A) A.length (lf B) B.length=(L,true)):dC o A.length (lf A) B.length (lf B)=true∧∃X Y,mD [cV o A.length (lf A) B.length (lf B)] A=(X,true)∧mD [cW o A.length (lf A) B.length (lf B)] B=(Y,true)∧bZ X=true∧bZ Y=true∧L=cA X Y∧L.length≤400:=by
 unfold cE at h;by_cases hk:dC o A.length (lf A) B.length (lf B)=true
 ·refine⟨hk,?_⟩;rw[if_pos hk]at h;unfold qT at h;by_cases h2:(cJ (lf [cV o A.length (lf A) B.length (lf B)]) 1 (lf A) A.length).2=true∧(cJ (lf [cW o A.length (lf A) B.length (lf B)]) 1 (lf B) B.length).2=true
  ·rw[if_pos h2]at h;obtain⟨X,hX⟩:∃X,mD [cV o A.length (lf A) B.length (lf B)] A=(X,true):=by
    rcases FR [cV o A.length (lf A) B.length (lf B)] A with e|e
    ·exact absurd h2.1 (by rw[show cJ (lf [cV o A.length (lf A) B.length (lf B)]) 1 (lf A) A.length=([],false)from e];simp)
    ·exact e
   obtain⟨Y,hY⟩:∃Y,mD [cW o A.length (lf A) B.length (lf B)] B=(Y,true):=by
    rcases FR [cW o A.length (lf A) B.length (lf B)] B with e|e
    ·exact absurd h2.2 (by rw[show cJ (lf [cW o A.length (lf A) B.length (lf B)]) 1 (lf B) B.length=([],false)from e];simp)
    ·exact e
   rw[show cJ (lf [cV o A.length (lf A) B.length (lf B)]) 1 (lf A) A.length=(X,true)from hX,show cJ (lf [cW o A.length (lf A) B.length (lf B)]) 1 (lf B) B.length=(Y,true)from hY]at h;rcases rR X Y with e|⟨_,_,hl,e⟩
   ·rw[show kL (lf X) X.length (lf Y) Y.length=([],false)from e]at h;cases h
   ·rw[show kL (lf X) X.length (lf Y) Y.length=(cA X Y,true)from e]at h;have hL:cA X Y=L:=by cases h;rfl
    exact⟨X,Y,hX,hY,rV hX,rV hY,hL.symm,by rw[←hL];exact hl⟩
  ·rw[if_neg h2]at h;cases h
 ·rw[if_neg hk]at h;cases h
theorem FE {o:Int} {A B L:List T} (h:cE o (lf A) A.length (lf B) B.length=(L,true)):bZ L=true:=by obtain⟨hk,X,Y,hX,hY,oX,oY,rfl,hl⟩:=iN h;exact dX hl (dB (aH oX).2 (aH oY).2).1
theorem wL {o:Int} {u:T} {A X:List T} (gu:u.m.ok=true∧1≤u.c∧u.c≤100) (hA:sR o A=true) (h:mD [u] A=(X,true)) {b:M} (hb:M.mul u.m (lR o A).m=(b,true)) (hc:lO u.c (lR o A).c=1):aQ X b=1∧∀t∈X,gI o t.m≤gI o b:=by
 obtain⟨ho,oA,_⟩:=gL.1 hA;have hu:sR o [u]=true:=gL.2 ⟨ho,gZ gu,by simp⟩
 obtain⟨e1,e2⟩:=GZ ho h;rw[hu,hA]at e1;have hX:sR o X=true:=e1
 obtain⟨e3,e4⟩:=e2 hu hA;have eu:lR o [u]=u:=by have:=(nN hu).1;simpa using this
 rw[eu]at e3 e4;have eb:(lR o X).m=b:=by have:=e3.symm.trans (show M.mul ⟨u.m.x,u.m.y,u.m.d,u.m.e⟩ ⟨(lR o A).m.x,(lR o A).m.y,(lR o A).m.d,(lR o A).m.e⟩=(b,true)from hb);cases this;rfl
 obtain⟨t1,t2⟩:=nN hX;have hm:=(rG (aH (rV h)).2 t1).1
 rw[eb]at t2 hm;refine⟨?_,t2⟩;rw[hm,←e4,hc]
theorem BM {o:Int} {A B L:List T} (h:cE o (lf A) A.length (lf B) B.length=(L,true)):∀t∈L,M.cmp o t.m (iZ o A.length (lf A) B.length (lf B))<0:=by
 obtain⟨hk,X,Y,hX,hY,oX,oY,rfl,hl⟩:=iN h;obtain⟨gU,gV⟩:=nC hk;obtain⟨m1,m2,c1,c2,_⟩:=zT hk;have hk':=hk
 unfold dC at hk';rw[Bool.and_eq_true]at hk';obtain⟨x1,x2⟩:=wL gU (show sR o A=true from hk'.1) hX m1 c1;obtain⟨y1,y2⟩:=wL gV (show sR o B=true from hk'.2) hY m2 c2;have fX:=(aH oX).2
 have fY:=(aH oY).2;obtain⟨fL,cL⟩:=dB fX fY;have ho:=(gM hk'.1).1
 have hbok:(iZ o A.length (lf A) B.length (lf B)).ok=true:=IL m1;generalize iZ o A.length (lf A) B.length (lf B)=b at *;intro t ht;have tok:=(fL.2 t ht).1
 obtain⟨q1,q2⟩:=rG fL ht;have hne:t.m≠b:=fun e=>by apply q2;rw[e,cL b,x1,y1];decide
 have hle:gI o t.m≤gI o b:=by
  by_cases hx:aQ X t.m=0
  ·by_cases hy:aQ Y t.m=0
   ·exact absurd (by rw[cL,hx,hy];decide) q2
   ·obtain⟨s,hs,e⟩:=jF hy;rw[←e];exact y2 s hs
  ·obtain⟨s,hs,e⟩:=jF hx;rw[←e];exact x2 s hs
 have hlt:gI o t.m≠gI o b:=fun e=>hne (nB _ _ tok hbok e);unfold M.cmp;rw[if_pos ⟨ho,tok,hbok⟩,tH ho tok hbok];unfold c3;split
 ·omega
 ·split<;>omega
open Go.RowKit Go.Deep Go.Joins
theorem aZ {n:Nat} {ln:Nat→Nat} {f:Nat→Nat→T} (h:aY n ln f=true):n≤12∧∀i,i<n→ln i≠0∧aL (ln i) (f i)=true:=of_decide_eq_true h
def eO (p:T→Bool) (f:Nat→T):Nat→Int
 |0=> -1
 |n+1=>if 0≤eO p f n then eO p f n else if p (f n)=true then(n:Int)else -1
theorem kE {p:T→Bool} {f:Nat→T}:∀{k:Nat},(∀j,j<k→p (f j)=false)→eO p f k= -1
 |0,_=>rfl
 |k+1,h=>by have h1:=kE (p:=p) (f:=f) (k:=k) (fun j hj=>h j (by omega));unfold eO;rw[h1,if_neg (by omega),if_neg (by rw[h k (by omega)];decide)]
theorem mR {p:T→Bool} {f:Nat→T} {k:Nat} (h:∀j,j<k→p (f j)=false) (hk:p (f k)=true):∀n,k<n→eO p f n=(k:Int)
 |0,h0=>by omega
 |n+1,h0=>by
  by_cases e:k=n
  ·subst e;unfold eO;rw[kE h,if_neg (by omega),if_pos hk]
  ·have h1:=mR h hk n (by omega);unfold eO;rw[h1,if_pos (by omega)]
theorem sL {p:T→Bool} {f:Nat→T}:∀{n:Nat},0≤eO p f n↔∃i,i<n∧p (f i)=true
 |0=>⟨fun h=>absurd (show(0:Int)≤ -1 from h) (by decide),fun⟨_,h,_⟩=>by omega⟩
 |n+1=>by
  have ih:=sL (p:=p) (f:=f) (n:=n);unfold eO;by_cases h:0≤eO p f n
  ·rw[if_pos h];exact⟨fun _=>by obtain⟨i,hi,hp⟩:=ih.1 h;exact⟨i,by omega,hp⟩,fun _=>h⟩
  ·rw[if_neg h];by_cases hp:p (f n)=true
   ·rw[if_pos hp];exact⟨fun _=>⟨n,by omega,hp⟩,fun _=>by omega⟩
   ·rw[if_neg hp];refine⟨fun hh=>absurd hh (by decide),fun⟨i,hi,hpi⟩=>?_⟩;by_cases e:i=n
    ·subst e;exact absurd hpi hp
    ·exact absurd (ih.2 ⟨i,by omega,hpi⟩) h
def KA (g:Nat) (lb:Array Value) (p:T→Bool) (Q:World→Prop) (f:Nat→T) (n:Nat):Prop:=
 ∀(k:Nat) (W:World),k<n→Q W→Calls Try.prog g (#[.agg #[.int .i64 (f k).c,.int .i64 (f k).m.x,.int .i64 (f k).m.y,.int .i64 (f k).m.d,.int .i64 (f k).m.e]]++lb) W fun r w'=>r= .returned (.bool (p (f k)))∧Below W.heap.size W w'
theorem MZ (w:World) (a:Option Addr) (n cap:Nat) (f:Nat→T) (g:Nat) (lb:Array Value) (p:T→Bool) (Q:World→Prop) (eg:∀args w,(callFunc g args).run Try.prog w= .ok (.enter g args) w) (hW:KA g lb p Q f n) (hQ:∀W',Below w.heap.size w W'→Q W') (h:Rd w a n cap f):Calls Try.prog 84 #[.slice a n cap,.func (.func g) #[] lb] w fun r w'=>r= .returned (.int .i64 (eO p f n))∧Below w.heap.size w w':=by
 have HA:=aA h;have HW:=aA hW
 have HQ:=aA hQ;have hn:(n:Int)≤140737488351232:=by have:=h.2.1;omega
 clear h hW hQ;go_enter Try.func84,Try.ntmps84;go_wp2;go_loopw [8] (fun v wr=>∃k:Nat,k≤n∧v= .int .i64 (k:Int)∧Below w.heap.size w wr∧∀j,j<k→p (f j)=false) (fun v _=>n-(intOf v).toNat);case atStart=>exact⟨0,gT _,rfl,cM _ _,fun j hj=>by omega⟩
 case round=>
  obtain⟨k,hk,rfl,hB,hJ⟩:=hrel;have HJ:=aA hJ
  have HB:=aA hB;clear hJ;by_cases hlt:k<n
  ·have hkn:(k:Int)<(n:Int):=by omega
   have hri:=HA.out.below hB;rcases hri.2.2 with h0|⟨b,off,hpe,hblt,hcl⟩
   ·omega
   obtain⟨g0,g1,g2,g3,g4⟩:=hcl k hlt;have HCALL:=aA (HW.out k wr hlt (HQ.out _ hB))
   clear hcl hri hB;subst hpe;cases hpk:p (f k)
   ·have HP:=aA hpk;go_wp2_with fail;refine HCALL.out.mono ?_;rw[hpk];rintro r w4 ⟨rfl,hb4⟩;have HB4:=aA (aB HB.out hb4)
    clear hb4 g0 g1 g2 g3 g4 hpk;go_wp2;go_roundw
    case rel=>exact⟨k+1,by omega,by go_num,HB4.out,fun j hj=>by
     by_cases e:j=k
     ·rw[e];exact HP.out
     ·exact HJ.out j (by omega)⟩
    case measure=>simp[intOf];omega
   ·have HE:Hid (eO p f n=(k:Int)):=mR HJ.out hpk n hlt;go_wp2_with fail;refine HCALL.out.mono ?_;rw[hpk];rintro r w4 ⟨rfl,hb4⟩;have HB4:=aA (aB HB.out hb4)
    clear hb4 g0 g1 g2 g3 g4 hpk;go_wp2;go_ret;exact⟨congrArg (fun z=>Ending.returned (Value.int IntKind.i64 z)) HE.out.symm,HB4.out⟩
  ·have hnl:¬(k:Int)<(n:Int):=by omega
   have hie:k=n:=by omega
   subst hie;have HE:Hid (eO p f k= -1):=kE HJ.out
   go_wp2;go_ret;exact⟨congrArg (fun z=>Ending.returned (Value.int IntKind.i64 z)) HE.out.symm,HB.out⟩
theorem KG (t:T) (m:M) (B:Nat) (W:World) (h:M4 W B m.x m.y m.d m.e):Calls Try.prog 85 #[.agg #[.int .i64 t.c,.int .i64 t.m.x,.int .i64 t.m.y,.int .i64 t.m.d,.int .i64 t.m.e],.pointer (some ⟨B,0,none⟩)] W fun r w'=>r= .returned (.bool (M.dvd t.m m))∧Below W.heap.size W w':=by
 obtain⟨bv,hbv⟩:∃bv,M.dvd ⟨t.m.x,t.m.y,t.m.d,t.m.e⟩ ⟨m.x,m.y,m.d,m.e⟩=bv:=⟨_,rfl⟩
 rw[show M.dvd t.m m=bv from hbv];have HD:=aA hbv
 have B1w:=aA (aC W (.cells #[.int .i64 t.c,.int .i64 t.m.x,.int .i64 t.m.y,.int .i64 t.m.d,.int .i64 t.m.e] 33));have hlt:=h.lt
 obtain⟨c1,c2,c3,c4⟩:=h;clear hbv;go_enter Try.func85,Try.ntmps85;go_wp2_with fail;refine(pZ HD.out _).mono ?_;rintro r w1 ⟨rfl,hb⟩;have HB:=aA (aB B1w.out hb)
 clear hb c1 c2 c3 c4;go_wp2;go_ret;exact⟨rfl,HB.out⟩
theorem BI (w:World) (a:Option Addr) (n cap:Nat) (f:Nat→T) (m:M) (h:Rd w a n cap f):Calls Try.prog 50 #[.slice a n cap,.agg #[.int .i64 m.x,.int .i64 m.y,.int .i64 m.d,.int .i64 m.e]] w fun r w'=>r= .returned (.int .i64 (eO (fun t=>M.dvd t.m m) f n))∧Below w.heap.size w w':=by
 have HI:=aA (MZ (w.alloc (.cells #[.int .i64 m.x,.int .i64 m.y,.int .i64 m.d,.int .i64 m.e] 31)) a n cap f 85 #[.pointer (some ⟨w.heap.size,0,none⟩)] (fun t=>M.dvd t.m m) (fun W=>M4 W w.heap.size m.x m.y m.d m.e) (enters_of Try.func85 (by kernel_rfl) rfl) (fun k W hk hQ=>KG (f k) m _ W hQ) (fun W' hb=>(M4.box w 31 m.x m.y m.d m.e).below hb) (h.below (aC w _)));have HB0:=aA (aC w (.cells #[.int .i64 m.x,.int .i64 m.y,.int .i64 m.d,.int .i64 m.e] 31))
 clear h;go_enter Try.func50,Try.ntmps50;go_wp2_with fail;refine HI.out.mono ?_;rintro r w1 ⟨rfl,hb⟩;have HB:=aA (aB HB0.out hb)
 clear hb HI HB0;go_wp2;go_ret;exact⟨rfl,HB.out⟩
end Go.Proofs.Ytbkighpmkadmmaa
