/-
  The plain numbers of chapter 1, with no program in sight: the residues by 101, their powers and their falling products, and what is true of them.
-/
import Derived.WalkKit
import Derived.Test.YtkcmamepoplcdaaGreatDoorRows
import Derived.Below
set_option maxHeartbeats 400000
set_option maxRecDepth 100000
namespace Go.Proofs.YtkcmamepoplcdaaGreatDoor
abbrev EU:=@World.block_lt_of_cell?
abbrev aD:=@Go.RowKit.Below.refl
abbrev bC:=@bodyPost_ret
abbrev gO:=@Nat.zero_le
abbrev eB:=@Nat.lt_of_lt_of_le
abbrev sP:=@World.cell?_of_block
abbrev jW:=@Nat.le_trans
theorem aI:(∀{α:Type}(xs:List α)(i:Nat)(h:i<xs.toArray.size),xs.toArray[i]=xs[i]'(by simpa using h))∧(∀{α:Type}(a:α)(l:List α)(i:Nat)(h:i+1<(a::l).length),(a::l)[i+1]=l[i]'(by simpa using h))∧(∀{α:Type}(a:α)(l:List α)(h:0<(a::l).length),(a::l)[0]=a)∧(∀{α:Type}(l:List α)(i:Nat)(a:α),l.toArray.setIfInBounds i a=(l.set i a).toArray)∧(∀{α:Type}(x:α)(xs:List α)(a:α),(x::xs).set 0 a=a::xs)∧(∀{α:Type}(x:α)(xs:List α)(n:Nat)(a:α),(x::xs).set (n+1) a=x::xs.set n a):=⟨fun _ _ _=>List.getElem_toArray ..,fun _ _ _ _=>List.getElem_cons_succ ..,fun _ _ _=>List.getElem_cons_zero ..,fun _ _ _=>List.setIfInBounds_toArray ..,fun _ _ _=>List.set_cons_zero ..,fun _ _ _ _=>List.set_cons_succ ..⟩
def iF (a b:Int):Int:=if 0≤a∧a≤100∧0≤b∧b≤100 then a*b%101 else 0
def pw (a:Int):Nat→Int
 |0=>1
 |n+1=>pw a n*a%101
def LL (a n:Int):Int:=if 0≤a∧a≤100∧0≤n∧n≤1000 then pw a n.toNat else 0
def iv (a:Int):Int:=pw a 99
def FY (a:Int):Int:=if 0≤a∧a≤100 then iv a else 0
def fl (n:Int):Nat→Int
 |0=>1
 |i+1=>fl n i*((n-i)%101)%101
def cU (n k:Int):Int:=if 0≤n∧n≤60∧0≤k∧k≤60 then fl n k.toNat else 0
def dC (n k:Int):Int:=if 0≤n∧n≤60∧0≤k∧k≤n then fl n k.toNat*iv (fl k k.toNat)%101 else 0
theorem OC (a:Int) (n:Nat):0≤pw a n∧pw a n≤100:=by
 cases n with
 |zero=>simp[pw]
 |succ n=>simp only[pw];omega
theorem NU (a:Int):0≤iv a∧iv a≤100:=OC a 99
theorem pJ (n:Int) (i:Nat):0≤fl n i∧fl n i≤100:=by
 cases i with
 |zero=>simp[fl]
 |succ i=>simp only[fl];omega
theorem gA {a b:Int} (ha:0≤a) (ha':a≤100) (hb:0≤b) (hb':b≤100):0≤a*b∧a*b≤10000:=by
 refine⟨Int.mul_nonneg ha hb,?_⟩
 calc a*b≤100*100:=Int.mul_le_mul ha' hb' hb (by omega)
  _=10000:=by omega
theorem RV (a:Int) (n:Nat):pw a n=a ^ n%101:=by
 induction n with
 |zero=>simp[pw]
 |succ n ih=>simp only[pw,ih,Int.pow_succ];rw[Int.mul_emod,Int.emod_emod_of_dvd _ (Int.dvd_refl 101),←Int.mul_emod]
theorem BS (a:Int) (n:Nat):(a%101) ^ n%101=a ^ n%101:=by
 induction n with
 |zero=>simp
 |succ n ih=>
  rw[Int.pow_succ,Int.pow_succ,Int.mul_emod,ih,Int.emod_emod_of_dvd _ (Int.dvd_refl 101),←Int.mul_emod]
def kY (a:Int) (n:Nat) (b m x:Int):Prop:=x*b ^ m.toNat%101=a ^ n%101
theorem yV (a:Int) (n:Int):kY a n.toNat a n 1:=by unfold kY;rw[Int.one_mul]
theorem DR {a:Int} {n:Nat} {b x:Int} (h:kY a n b 0 x) (h0:0≤x) (h1:x≤100):x=pw a n:=by unfold kY at h;rw[RV,←h];simp;omega
theorem JM (b:Int) (m:Nat):(b*b) ^ m=b ^ (2*m):=by rw[Int.pow_mul,Int.pow_succ,Int.pow_succ,Int.pow_zero,Int.one_mul]
theorem AF {a:Int} {n:Nat} {b m x:Int} (h:kY a n b m x) (hm:0<m) (he:m%2=0):kY a n (b*b%101) (m / 2) x:=by
 unfold kY at *;rw[←h];have e:m.toNat=2*(m / 2).toNat:=by omega
 rw[e,←JM,Int.mul_emod,BS,←Int.mul_emod]
theorem DS {a:Int} {n:Nat} {b m x:Int} (h:kY a n b m x) (hm:0<m) (he:m%2=1):kY a n (b*b%101) (m / 2) (x*b%101):=by
 unfold kY at *;rw[←h];have e:m.toNat=2*(m / 2).toNat+1:=by omega
 rw[e,Int.pow_succ,←JM,Int.mul_emod,BS,Int.emod_emod_of_dvd _ (Int.dvd_refl 101),←Int.mul_emod];congr 1;rw[Int.mul_assoc,Int.mul_comm b]
theorem BF (n:Int) (j i:Nat) (hn:n=j) (h:j<i):fl n i=0:=by
 induction i with
 |zero=>omega
 |succ i ih=>
  simp only[fl];by_cases e:j=i
  ·subst e;subst hn;have:((j:Int)-j)%101=0:=by omega
   rw[this];simp
  ·rw[ih (by omega)];simp
theorem BE (n:Int) (j:Nat) (h:(j:Int)≤n) (hn:n≤60):fl n (j+1)=fl n j*(n-j)%101:=by
 simp only[fl];have:(n-(j:Int))%101=n-j:=by omega
 rw[this]
theorem mB {k:IntKind} {a b:Int} (h:a=b):Ending.returned (.int k a)= .returned (.int k b):=by rw[h]
theorem fI {a b:Int} (h1:0≤a) (h2:a≤100) (h3:0≤b) (h4:b≤100):iF a b=a*b%101:=if_pos ⟨h1,h2,h3,h4⟩
theorem AZ {a:Int} (h1:0≤a) (h2:a≤100):FY a=iv a:=if_pos ⟨h1,h2⟩
theorem BC {a n:Int} (h1:0≤a) (h2:a≤100) (h3:0≤n) (h4:n≤1000):LL a n=pw a n.toNat:=if_pos ⟨h1,h2,h3,h4⟩
theorem iP {n k:Int} (h1:0≤n) (h2:n≤60) (h3:0≤k) (h4:k≤60):cU n k=fl n k.toNat:=if_pos ⟨h1,h2,h3,h4⟩
theorem qW {n k:Int} (h1:0≤n) (h2:n≤60) (h3:0≤k) (h4:k≤n):dC n k=fl n k.toNat*iv (fl k k.toNat)%101:=if_pos ⟨h1,h2,h3,h4⟩
theorem xU {a b:Int} (h:¬(0≤a∧a≤100∧0≤b∧b≤100)):iF a b=0:=if_neg h
theorem FZ {a:Int} (h:¬(0≤a∧a≤100)):FY a=0:=if_neg h
theorem xV {a n:Int} (h:¬(0≤a∧a≤100∧0≤n∧n≤1000)):LL a n=0:=if_neg h
theorem oP {n k:Int} (h:¬(0≤n∧n≤60∧0≤k∧k≤60)):cU n k=0:=if_neg h
theorem pI {n k:Int} (h:¬(0≤n∧n≤60∧0≤k∧k≤n)):dC n k=0:=if_neg h
theorem pR {a b:Int} (h:(a==b)=false):a≠b:=by simpa using h
theorem LM (a:Int):LL a 99=FY a:=by
 by_cases h:0≤a∧a≤100
 ·rw[BC h.1 h.2 (by omega) (by omega),AZ h.1 h.2];rfl
 ·rw[xV (by omega),FZ h]
theorem xQ {n k:Int} (h1:0≤n) (h2:n≤60) (h3:0≤k) (h4:k≤n):iF (cU n k) (FY (cU k k))=dC n k:=by
 have b1:=pJ n k.toNat;have b2:=pJ k k.toNat
 have b3:=NU (fl k k.toNat);rw[qW h1 h2 h3 h4,iP h1 h2 h3 (by omega),iP h3 (by omega) h3 (by omega),AZ b2.1 b2.2,fI b1.1 b1.2 b3.1 b3.2]
theorem fV (a b:Int):0≤iF a b∧iF a b≤100:=by unfold iF;split<;>omega
theorem BR (a b:Int):(a%101)*b%101=a*b%101:=by rw[Int.mul_emod,Int.emod_emod_of_dvd _ (Int.dvd_refl 101),←Int.mul_emod]
theorem MI (a b:Int):a*(b%101)%101=a*b%101:=by rw[Int.mul_comm,BR,Int.mul_comm]
theorem zO {a b c:Int} (ha:0≤a∧a≤100) (hb:0≤b∧b≤100) (hc:0≤c∧c≤100):iF a (iF b c)=iF (iF a b) c:=by
 have h1:=fV a b;have h2:=fV b c
 rw[fI ha.1 ha.2 h2.1 h2.2,fI h1.1 h1.2 hc.1 hc.2,fI ha.1 ha.2 hb.1 hb.2,fI hb.1 hb.2 hc.1 hc.2,MI,BR,Int.mul_assoc]
theorem DQ:∀a:Fin 101,∀b:Fin 101,a.val*b.val%101=0→a.val=0∨b.val=0:=by decide+kernel
theorem nT {a b:Int} (ha:0≤a∧a≤100) (hb:0≤b∧b≤100) (h:a*b%101=0):a=0∨b=0:=by
 obtain⟨x,rfl⟩:=Int.eq_ofNat_of_zero_le ha.1;obtain⟨y,rfl⟩:=Int.eq_ofNat_of_zero_le hb.1;have:=DQ ⟨x,by omega⟩ ⟨y,by omega⟩ (by simp only;omega)
 simp only at this;omega
theorem vE {a b:Int} (ha:0≤a∧a≤100) (hb:0≤b∧b≤100) (h1:a≠0) (h2:b≠0):iF a b≠0:=by
 rw[fI ha.1 ha.2 hb.1 hb.2];intro h;have:=nT ha hb h
 omega
theorem RC (n:Int) (i:Nat) (h:(i:Int)≤n) (hn:n≤60):fl n i≠0:=by
 induction i with
 |zero=>simp[fl]
 |succ i ih=>
  rw[BE n i (by omega) hn];intro e;have:=nT (pJ n i) (show 0≤n-(i:Int)∧n-(i:Int)≤100 by omega) e
  have:=ih (by omega);omega
theorem xS {n k:Int} (hn:0≤n) (hn':n≤60) (hk':k≤60) (h:n<k):cU n k=0:=by rw[iP hn hn' (by omega) hk'];obtain⟨x,rfl⟩:=Int.eq_ofNat_of_zero_le hn;exact BF _ x _ rfl (by omega)
theorem xR {n k:Int} (hn':n≤60) (hk:0≤k) (h:k≤n):cU n k≠0:=by rw[iP (by omega) hn' hk (by omega)];exact RC n _ (by omega) hn'
open Go.RowKit
set_option linter.unusedVariables false
theorem zY (a:Int) (w:World) (h1:0≤a) (h2:a≤100):Calls Tryz.prog 124 #[.int .i64 a] w fun e w'=>e= .returned (.bool true)∧w'=w:=by have d1:decide (a<101)=true:=decide_eq_true (by omega);go_enter Tryz.func124,Tryz.ntmps124;go_wp2;go_ret;exact⟨rfl,rfl⟩
theorem vO (a:Int) (w:World) (h:a<0∨100<a):Calls Tryz.prog 124 #[.int .i64 a] w fun e w'=>e= .returned (.bool false)∧w'=w:=by
 rcases h with h|h
 ·go_enter Tryz.func124,Tryz.ntmps124;go_wp2;go_ret;exact⟨rfl,rfl⟩
 ·have d1:decide (a<101)=false:=decide_eq_false (by omega);go_enter Tryz.func124,Tryz.ntmps124;go_wp2;go_ret;exact⟨rfl,rfl⟩
theorem aM (n l h:Int) (w:World) (h1:l≤n) (h2:n≤h):Calls Tryz.prog 54 #[.int .i64 n,.int .i64 l,.int .i64 h] w fun e w'=>e= .returned (.bool true)∧w'=w:=by have d1:decide (n≤h)=true:=decide_eq_true h2;go_enter Tryz.func54,Tryz.ntmps54;go_wp2;go_ret;exact⟨rfl,rfl⟩
theorem aJ (n l h:Int) (w:World) (hh:n<l∨(l≤n∧h<n)):Calls Tryz.prog 54 #[.int .i64 n,.int .i64 l,.int .i64 h] w fun e w'=>e= .returned (.bool false)∧w'=w:=by
 rcases hh with h1|⟨h1,h2⟩
 ·go_enter Tryz.func54,Tryz.ntmps54;go_wp2;go_ret;exact⟨rfl,rfl⟩
 ·have d1:decide (n≤h)=false:=decide_eq_false (by omega);go_enter Tryz.func54,Tryz.ntmps54;go_wp2;go_ret;exact⟨rfl,rfl⟩
theorem vP (a:Int) (w:World) (h1:0≤a) (h2:a≤100):Calls Tryz.prog 215 #[.int .i64 a] w fun e w'=>e= .returned (.bool true)∧w'=w:=by go_enter Tryz.func215,Tryz.ntmps215;go_wp2_with (first|(go_at_call 54;first|(refine(aM _ _ _ _ (by omega) (by omega)).mono ?_;rintro e w' ⟨rfl,rfl⟩)|(refine(aJ _ _ _ _ (by omega)).mono ?_;rintro e w' ⟨rfl,rfl⟩)));go_ret;exact⟨rfl,rfl⟩
theorem qD (a:Int) (w:World) (h:a<0∨100<a):Calls Tryz.prog 215 #[.int .i64 a] w fun e w'=>e= .returned (.bool false)∧w'=w:=by
 rcases h with h|h
 ·go_enter Tryz.func215,Tryz.ntmps215;go_wp2_with (first|(go_at_call 54;first|(refine(aM _ _ _ _ (by omega) (by omega)).mono ?_;rintro e w' ⟨rfl,rfl⟩)|(refine(aJ _ _ _ _ (by omega)).mono ?_;rintro e w' ⟨rfl,rfl⟩)));go_ret;exact⟨rfl,rfl⟩
 ·go_enter Tryz.func215,Tryz.ntmps215;go_wp2_with (first|(go_at_call 54;first|(refine(aM _ _ _ _ (by omega) (by omega)).mono ?_;rintro e w' ⟨rfl,rfl⟩)|(refine(aJ _ _ _ _ (by omega)).mono ?_;rintro e w' ⟨rfl,rfl⟩)));go_ret;exact⟨rfl,rfl⟩
theorem lM (a b:Int) (w:World) (h1:0≤a) (h2:a≤100) (h3:0≤b) (h4:b≤100):Calls Tryz.prog 151 #[.int .i64 a,.int .i64 b] w fun e w'=>e= .returned (.int .i64 (a*b%101))∧w'=w:=by obtain⟨hm1,hm2⟩:=gA h1 h2 h3 h4;go_enter Tryz.func151,Tryz.ntmps151;go_wp2;go_ret;exact⟨rfl,rfl⟩
theorem RR (a b:Int) (w:World) (h1:0≤a) (h2:a≤100) (h3:0≤b) (h4:b≤100):Calls Tryz.prog 150 #[.int .i64 a,.int .i64 b] w fun e w'=>e= .returned (.int .i64 ((a+b)%101))∧w'=w:=by go_enter Tryz.func150,Tryz.ntmps150;go_wp2;go_ret;exact⟨rfl,rfl⟩
theorem MH (a b:Int) (w:World):Calls Tryz.prog 177 #[.int .i64 a,.int .i64 b] w fun e w'=>e= .returned (.int .i64 (iF a b))∧w'=w:=by
 by_cases h:0≤a∧a≤100∧0≤b∧b≤100
 ·rw[fI h.1 h.2.1 h.2.2.1 h.2.2.2];obtain⟨h1,h2,h3,h4⟩:=h;obtain⟨hm1,hm2⟩:=gA h1 h2 h3 h4;go_enter Tryz.func177,Tryz.ntmps177;go_wp2_with (first|(go_at_call 124;first|(refine(zY _ _ (by omega) (by omega)).mono ?_;rintro e w' ⟨rfl,rfl⟩)|(refine(vO _ _ (by omega)).mono ?_;rintro e w' ⟨rfl,rfl⟩))|(go_at_call 151;refine(lM _ _ _ (by omega) (by omega) (by omega) (by omega)).mono ?_;rintro e w' ⟨rfl,rfl⟩));go_ret;exact⟨rfl,rfl⟩
 ·rw[xU h];have h':a<0∨100<a∨(0≤a∧a≤100∧b<0)∨(0≤a∧a≤100∧100<b):=by omega
  clear h;rcases h' with h|h|⟨h1,h2,h3⟩|⟨h1,h2,h3⟩
  all_goals
   go_enter Tryz.func177,Tryz.ntmps177;go_wp2_with (first|(go_at_call 124;first|(refine(zY _ _ (by omega) (by omega)).mono ?_;rintro e w' ⟨rfl,rfl⟩)|(refine(vO _ _ (by omega)).mono ?_;rintro e w' ⟨rfl,rfl⟩))|(go_at_call 151;refine(lM _ _ _ (by omega) (by omega) (by omega) (by omega)).mono ?_;rintro e w' ⟨rfl,rfl⟩));go_ret;exact⟨rfl,rfl⟩
theorem TY (a b:Int) (w:World):Calls Tryz.prog 205 #[.int .i64 a,.int .i64 b] w fun e w'=>e= .returned (.int .i64 (iF a b))∧w'=w:=by
 by_cases h:0≤a∧a≤100∧0≤b∧b≤100
 ·rw[fI h.1 h.2.1 h.2.2.1 h.2.2.2];obtain⟨h1,h2,h3,h4⟩:=h;obtain⟨hm1,hm2⟩:=gA h1 h2 h3 h4;go_enter Tryz.func205,Tryz.ntmps205;go_wp2_with (first|(go_at_call 215;first|(refine(vP _ _ (by omega) (by omega)).mono ?_;rintro e w' ⟨rfl,rfl⟩)|(refine(qD _ _ (by omega)).mono ?_;rintro e w' ⟨rfl,rfl⟩)));go_ret;exact⟨rfl,rfl⟩
 ·rw[xU h];have h':a<0∨100<a∨(0≤a∧a≤100∧b<0)∨(0≤a∧a≤100∧100<b):=by omega
  clear h;rcases h' with h|h|⟨h1,h2,h3⟩|⟨h1,h2,h3⟩
  all_goals
   go_enter Tryz.func205,Tryz.ntmps205;go_wp2_with (first|(go_at_call 215;first|(refine(vP _ _ (by omega) (by omega)).mono ?_;rintro e w' ⟨rfl,rfl⟩)|(refine(qD _ _ (by omega)).mono ?_;rintro e w' ⟨rfl,rfl⟩)));go_ret;exact⟨rfl,rfl⟩
theorem OB (a n:Int) (w:World) (h1:0≤a) (h2:a≤100) (h3:0≤n) (h4:n≤1000):Calls Tryz.prog 152 #[.int .i64 a,.int .i64 n] w fun e w'=>e= .returned (.int .i64 (pw a n.toNat))∧w'=w:=by
 go_enter Tryz.func152,Tryz.ntmps152;go_wp2
 go_loop [0,1,5] (fun a' n' r=>∃b m x:Int,a'= .int .i64 b∧n'= .int .i64 m∧r= .int .i64 x∧0≤b∧b≤100∧0≤m∧m≤1000∧0≤x∧x≤100∧kY a n.toNat b m x) (fun _ n' _=>(intOf n').toNat)
 case atStart=>exact⟨a,n,1,rfl,rfl,rfl,h1,h2,h3,h4,by omega,by omega,yV a n⟩
 case round=>
  obtain⟨b,m,x,rfl,rfl,rfl,b1,b2,m1,m2,x1,x2,hI⟩:=hrel;by_cases hm:0<m
  ·obtain⟨s1,s2⟩:=gA b1 b2 b1 b2;by_cases ho:m%2=1
   ·obtain⟨t1,t2⟩:=gA x1 x2 b1 b2;have hI':=DS hI hm ho
    clear hI;have hb:(m%2==1)=true:=by simp[ho]
    clear ho;go_wp2;go_round;case rel=>exact⟨_,_,_,rfl,rfl,rfl,by omega,by omega,by omega,by omega,by omega,by omega,hI'⟩
    case measure=>simp[intOf];omega
   ·have hI':=AF hI hm (by omega);clear hI;have hb:(m%2==1)=false:=by simp[ho]
    clear ho;go_wp2;go_round;case rel=>exact⟨_,_,_,rfl,rfl,rfl,by omega,by omega,by omega,by omega,by omega,by omega,hI'⟩
    case measure=>simp[intOf];omega
  ·have e:m=0:=by omega
   subst e;go_wp2;go_ret;exact⟨mB (DR hI x1 x2),rfl⟩
theorem TZ (a n:Int) (w:World):Calls Tryz.prog 216 #[.int .i64 a,.int .i64 n] w fun e w'=>e= .returned (.int .i64 (LL a n))∧w'=w:=by
 by_cases h:0≤a∧a≤100∧0≤n∧n≤1000
 ·rw[BC h.1 h.2.1 h.2.2.1 h.2.2.2];obtain⟨h1,h2,h3,h4⟩:=h;go_enter Tryz.func216,Tryz.ntmps216;go_wp2_with (first|(go_at_call 215;first|(refine(vP _ _ (by omega) (by omega)).mono ?_;rintro e w' ⟨rfl,rfl⟩)|(refine(qD _ _ (by omega)).mono ?_;rintro e w' ⟨rfl,rfl⟩))|(go_at_call 54;first|(refine(aM _ _ _ _ (by omega) (by omega)).mono ?_;rintro e w' ⟨rfl,rfl⟩)|(refine(aJ _ _ _ _ (by omega)).mono ?_;rintro e w' ⟨rfl,rfl⟩)))
  go_loop [5,6] (fun x i=>∃k:Nat,(k:Int)≤n∧i= .int .i64 k∧x= .int .i64 (pw a k)) (fun _ i=>(n-intOf i).toNat)
  case atStart=>exact⟨0,by omega,rfl,rfl⟩
  case round=>
   obtain⟨k,hk,rfl,rfl⟩:=hrel;obtain⟨p1,p2⟩:=OC a k;by_cases hlt:(k:Int)<n
   ·obtain⟨t1,t2⟩:=gA p1 p2 h1 h2;go_wp2;go_round;case rel=>exact⟨k+1,by omega,by go_num,rfl⟩
    case measure=>simp[intOf];omega
   ·go_wp2;go_ret;exact⟨mB (by rw[show n.toNat=k by omega]),rfl⟩
 ·rw[xV h];have h':a<0∨100<a∨(0≤a∧a≤100∧n<0)∨(0≤a∧a≤100∧1000<n):=by omega
  clear h;rcases h' with h|h|⟨h1,h2,h3⟩|⟨h1,h2,h3⟩
  all_goals
   go_enter Tryz.func216,Tryz.ntmps216;go_wp2_with (first|(go_at_call 215;first|(refine(vP _ _ (by omega) (by omega)).mono ?_;rintro e w' ⟨rfl,rfl⟩)|(refine(qD _ _ (by omega)).mono ?_;rintro e w' ⟨rfl,rfl⟩))|(go_at_call 54;first|(refine(aM _ _ _ _ (by omega) (by omega)).mono ?_;rintro e w' ⟨rfl,rfl⟩)|(refine(aJ _ _ _ _ (by omega)).mono ?_;rintro e w' ⟨rfl,rfl⟩)));go_ret;exact⟨rfl,rfl⟩
theorem LW (a:Int) (w:World) (h1:0≤a) (h2:a≤100):Calls Tryz.prog 207 #[.int .i64 a] w fun e w'=>e= .returned (.int .i64 (iv a))∧w'=w:=by go_enter Tryz.func207,Tryz.ntmps207;go_wp2_with (first|(go_at_call 152;refine(OB _ _ _ (by omega) (by omega) (by omega) (by omega)).mono ?_;rintro e w' ⟨rfl,rfl⟩));go_ret;exact⟨rfl,rfl⟩
theorem TS (a:Int) (w:World):Calls Tryz.prog 206 #[.int .i64 a] w fun e w'=>e= .returned (.int .i64 (FY a))∧w'=w:=by go_enter Tryz.func206,Tryz.ntmps206;go_wp2_with (first|(go_at_call 216;refine(TZ _ _ _).mono ?_;rintro e w' ⟨rfl,rfl⟩));go_ret;exact⟨mB (LM a),rfl⟩
theorem lQ (a:Int) (w:World) (h1:0≤a) (h2:a≤60):Calls Tryz.prog 195 #[.int .i64 a] w fun e w'=>e= .returned (.bool true)∧w'=w:=by have d1:decide (a≤60)=true:=decide_eq_true h2;go_enter Tryz.func195,Tryz.ntmps195;go_wp2;go_ret;exact⟨rfl,rfl⟩
theorem kE (a:Int) (w:World) (h:a<0∨60<a):Calls Tryz.prog 195 #[.int .i64 a] w fun e w'=>e= .returned (.bool false)∧w'=w:=by
 rcases h with h|h
 ·go_enter Tryz.func195,Tryz.ntmps195;go_wp2;go_ret;exact⟨rfl,rfl⟩
 ·have d1:decide (a≤60)=false:=decide_eq_false (by omega);go_enter Tryz.func195,Tryz.ntmps195;go_wp2;go_ret;exact⟨rfl,rfl⟩
theorem GA (n k:Int) (w:World) (h1:0≤n) (h2:n≤60) (h3:0≤k) (h4:k≤60):Calls Tryz.prog 196 #[.int .i64 n,.int .i64 k] w fun e w'=>e= .returned (.int .i64 (fl n k.toNat))∧w'=w:=by
 go_enter Tryz.func196,Tryz.ntmps196;go_wp2
 go_loop [0,5,7] (fun a' r i=>∃j:Nat,(j:Int)≤k∧(j:Int)≤n∧a'= .int .i64 (n-j)∧r= .int .i64 (fl n j)∧i= .int .i64 j) (fun _ _ i=>(k-intOf i).toNat)
 case atStart=>exact⟨0,by omega,by omega,by simp,rfl,rfl⟩
 case round=>
  obtain⟨j,hj,hjn,rfl,rfl,rfl⟩:=hrel;obtain⟨p1,p2⟩:=pJ n j;by_cases hlt:(j:Int)<k
  ·by_cases hz:n-(j:Int)=0
   ·have hb:(n-(j:Int)==0)=true:=by simp[hz]
    have hf:Hid (fl n k.toNat=0):=BF n j k.toNat (by omega) (by omega);clear hz;go_wp2;go_ret;exact⟨mB hf.out.symm,rfl⟩
   ·have hb:(n-(j:Int)==0)=false:=by simp[hz]
    clear hz;have hp:0<n-(j:Int):=by have:=pR hb;omega
    obtain⟨t1,t2⟩:=gA p1 p2 (show(0:Int)≤n-j by omega) (show n-(j:Int)≤100 by omega);have hs:Hid (fl n (j+1)=fl n j*(n-j)%101):=BE n j hjn h2
    go_wp2;go_round;case rel=>exact⟨j+1,by omega,by omega,congrArg (Value.int .i64) (by omega),by rw[hs.out];rfl,by go_num⟩
    case measure=>simp[intOf];omega
  ·go_wp2;go_ret;exact⟨mB (by rw[show k.toNat=j by omega]),rfl⟩
theorem BD (n k:Int) (w:World):Calls Tryz.prog 104 #[.int .i64 n,.int .i64 k] w fun e w'=>e= .returned (.int .i64 (cU n k))∧w'=w:=by
 by_cases h:0≤n∧n≤60∧0≤k∧k≤60
 ·rw[iP h.1 h.2.1 h.2.2.1 h.2.2.2];obtain⟨h1,h2,h3,h4⟩:=h;go_enter Tryz.func104,Tryz.ntmps104;go_wp2_with (first|(go_at_call 54;first|(refine(aM _ _ _ _ (by omega) (by omega)).mono ?_;rintro e w' ⟨rfl,rfl⟩)|(refine(aJ _ _ _ _ (by omega)).mono ?_;rintro e w' ⟨rfl,rfl⟩)))
  go_loop [5,6] (fun x i=>∃j:Nat,(j:Int)≤k∧i= .int .i64 j∧x= .int .i64 (fl n j)) (fun _ i=>(k-intOf i).toNat)
  case atStart=>exact⟨0,by omega,rfl,rfl⟩
  case round=>
   obtain⟨j,hj,rfl,rfl⟩:=hrel;obtain⟨p1,p2⟩:=pJ n j;by_cases hlt:(j:Int)<k
   ·obtain⟨t1,t2⟩:=gA p1 p2 (show(0:Int)≤(n-j)%101 by omega) (show(n-(j:Int))%101≤100 by omega);go_wp2;go_round;case rel=>exact⟨j+1,by omega,by go_num,rfl⟩
    case measure=>simp[intOf];omega
   ·go_wp2;go_ret;exact⟨mB (by rw[show k.toNat=j by omega]),rfl⟩
 ·rw[oP h];have h':n<0∨60<n∨(0≤n∧n≤60∧k<0)∨(0≤n∧n≤60∧60<k):=by omega
  clear h;rcases h' with h|h|⟨h1,h2,h3⟩|⟨h1,h2,h3⟩
  all_goals
   go_enter Tryz.func104,Tryz.ntmps104;go_wp2_with (first|(go_at_call 54;first|(refine(aM _ _ _ _ (by omega) (by omega)).mono ?_;rintro e w' ⟨rfl,rfl⟩)|(refine(aJ _ _ _ _ (by omega)).mono ?_;rintro e w' ⟨rfl,rfl⟩)));go_ret;exact⟨rfl,rfl⟩
theorem NT (n k:Int) (w:World):Calls Tryz.prog 178 #[.int .i64 n,.int .i64 k] w fun e w'=>e= .returned (.int .i64 (cU n k))∧w'=w:=by
 by_cases h:0≤n∧n≤60∧0≤k∧k≤60
 ·rw[iP h.1 h.2.1 h.2.2.1 h.2.2.2];obtain⟨h1,h2,h3,h4⟩:=h;go_enter Tryz.func178,Tryz.ntmps178;go_wp2_with (first|(go_at_call 195;first|(refine(lQ _ _ (by omega) (by omega)).mono ?_;rintro e w' ⟨rfl,rfl⟩)|(refine(kE _ _ (by omega)).mono ?_;rintro e w' ⟨rfl,rfl⟩))|(go_at_call 196;refine(GA _ _ _ (by omega) (by omega) (by omega) (by omega)).mono ?_;rintro e w' ⟨rfl,rfl⟩));go_ret;exact⟨rfl,rfl⟩
 ·rw[oP h];have h':n<0∨60<n∨(0≤n∧n≤60∧k<0)∨(0≤n∧n≤60∧60<k):=by omega
  clear h;rcases h' with h|h|⟨h1,h2,h3⟩|⟨h1,h2,h3⟩
  all_goals
   go_enter Tryz.func178,Tryz.ntmps178;go_wp2_with (first|(go_at_call 195;first|(refine(lQ _ _ (by omega) (by omega)).mono ?_;rintro e w' ⟨rfl,rfl⟩)|(refine(kE _ _ (by omega)).mono ?_;rintro e w' ⟨rfl,rfl⟩))|(go_at_call 196;refine(GA _ _ _ (by omega) (by omega) (by omega) (by omega)).mono ?_;rintro e w' ⟨rfl,rfl⟩));go_ret;exact⟨rfl,rfl⟩
theorem KW (n k:Int) (w:World):Calls Tryz.prog 190 #[.int .i64 n,.int .i64 k] w fun e w'=>e= .returned (.int .i64 (dC n k))∧w'=w:=by
 by_cases h:0≤n∧n≤60∧0≤k∧k≤n
 ·rw[qW h.1 h.2.1 h.2.2.1 h.2.2.2];obtain⟨h1,h2,h3,h4⟩:=h;obtain⟨p1,p2⟩:=pJ n k.toNat;obtain⟨q1,q2⟩:=pJ k k.toNat;obtain⟨r1,r2⟩:=NU (fl k k.toNat);have d1:decide (n<k)=false:=decide_eq_false (by omega)
  go_enter Tryz.func190,Tryz.ntmps190;go_wp2_with (first|(go_at_call 195;first|(refine(lQ _ _ (by omega) (by omega)).mono ?_;rintro e w' ⟨rfl,rfl⟩)|(refine(kE _ _ (by omega)).mono ?_;rintro e w' ⟨rfl,rfl⟩))|(go_at_call 196;refine(GA _ _ _ (by omega) (by omega) (by omega) (by omega)).mono ?_;rintro e w' ⟨rfl,rfl⟩)|(go_at_call 207;refine(LW _ _ (by omega) (by omega)).mono ?_;rintro e w' ⟨rfl,rfl⟩)|(go_at_call 151;refine(lM _ _ _ (by omega) (by omega) (by omega) (by omega)).mono ?_;rintro e w' ⟨rfl,rfl⟩));go_ret;exact⟨rfl,rfl⟩
 ·rw[pI h];have h':n<0∨60<n∨(0≤n∧n≤60∧k<0)∨(0≤n∧n≤60∧0≤k∧n<k):=by omega
  clear h;rcases h' with h|h|⟨h1,h2,h3⟩|⟨h1,h2,h3,h4⟩
  all_goals
   go_enter Tryz.func190,Tryz.ntmps190;go_wp2_with (first|(go_at_call 195;first|(refine(lQ _ _ (by omega) (by omega)).mono ?_;rintro e w' ⟨rfl,rfl⟩)|(refine(kE _ _ (by omega)).mono ?_;rintro e w' ⟨rfl,rfl⟩))|(go_at_call 196;refine(GA _ _ _ (by omega) (by omega) (by omega) (by omega)).mono ?_;rintro e w' ⟨rfl,rfl⟩));go_ret;exact⟨rfl,rfl⟩
theorem KX (n k:Int) (w:World):Calls Tryz.prog 186 #[.int .i64 n,.int .i64 k] w fun e w'=>e= .returned (.int .i64 (dC n k))∧w'=w:=by
 by_cases h:0≤n∧n≤60∧0≤k∧k≤n
 ·rw[←xQ h.1 h.2.1 h.2.2.1 h.2.2.2];obtain⟨h1,h2,h3,h4⟩:=h;go_enter Tryz.func186,Tryz.ntmps186;go_wp2_with (first|(go_at_call 54;first|(refine(aM _ _ _ _ (by omega) (by omega)).mono ?_;rintro e w' ⟨rfl,rfl⟩)|(refine(aJ _ _ _ _ (by omega)).mono ?_;rintro e w' ⟨rfl,rfl⟩))|(go_at_call 104;refine(BD _ _ _).mono ?_;rintro e w' ⟨rfl,rfl⟩)|(go_at_call 206;refine(TS _ _).mono ?_;rintro e w' ⟨rfl,rfl⟩)|(go_at_call 205;refine(TY _ _ _).mono ?_;rintro e w' ⟨rfl,rfl⟩));go_ret;exact⟨rfl,rfl⟩
 ·rw[pI h];have h':n<0∨60<n∨(0≤n∧n≤60∧k<0)∨(0≤n∧n≤60∧0≤k∧n<k):=by omega
  clear h;rcases h' with h|h|⟨h1,h2,h3⟩|⟨h1,h2,h3,h4⟩
  all_goals
   go_enter Tryz.func186,Tryz.ntmps186;go_wp2_with (first|(go_at_call 54;first|(refine(aM _ _ _ _ (by omega) (by omega)).mono ?_;rintro e w' ⟨rfl,rfl⟩)|(refine(aJ _ _ _ _ (by omega)).mono ?_;rintro e w' ⟨rfl,rfl⟩)));go_ret;exact⟨rfl,rfl⟩
end Go.Proofs.YtkcmamepoplcdaaGreatDoor
