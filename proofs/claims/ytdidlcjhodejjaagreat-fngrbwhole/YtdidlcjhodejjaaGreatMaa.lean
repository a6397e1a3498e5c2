/-
  The plain numbers of chapter 1, with no program in sight: the residues by 101, their powers and their falling products, and what is true of them.
-/
import Derived.WalkKit
import Derived.Test.YtdidlcjhodejjaaGreatRows
import Derived.Deep.RegionHeld3
import Derived.Deep.Light
import Derived.Below
set_option maxHeartbeats 1000000
set_option maxRecDepth 100000
namespace Go.Proofs.YtdidlcjhodejjaaGreat
abbrev cX:=@World.block_lt_of_cell?
abbrev bL:=@Go.RowKit.Below.refl
abbrev bY:=@bodyPost_ret
abbrev jY:=@Nat.lt_of_lt_of_le
abbrev mB:=@World.cell?_of_block
abbrev jZ:=@Nat.le_trans
abbrev rT:=@Nat.not_lt_zero
abbrev LN:=@World.cell?_alloc_lt
theorem gG:(∀{α:Type}(xs:List α)(i:Nat)(h:i<xs.toArray.size),xs.toArray[i]=xs[i]'(by simpa using h))∧(∀{α:Type}(a:α)(l:List α)(i:Nat)(h:i+1<(a::l).length),(a::l)[i+1]=l[i]'(by simpa using h))∧(∀{α:Type}(a:α)(l:List α)(h:0<(a::l).length),(a::l)[0]=a)∧(∀{α:Type}(l:List α)(i:Nat)(a:α),l.toArray.setIfInBounds i a=(l.set i a).toArray)∧(∀{α:Type}(x:α)(xs:List α)(a:α),(x::xs).set 0 a=a::xs)∧(∀{α:Type}(x:α)(xs:List α)(n:Nat)(a:α),(x::xs).set (n+1) a=x::xs.set n a):=⟨fun _ _ _=>List.getElem_toArray ..,fun _ _ _ _=>List.getElem_cons_succ ..,fun _ _ _=>List.getElem_cons_zero ..,fun _ _ _=>List.setIfInBounds_toArray ..,fun _ _ _=>List.set_cons_zero ..,fun _ _ _ _=>List.set_cons_succ ..⟩
def rQ (a b:Int):Int:=if 0≤a∧a≤100∧0≤b∧b≤100 then a*b%101 else 0
def pw (a:Int):Nat→Int
 |0=>1
 |n+1=>pw a n*a%101
def Hw (a n:Int):Int:=if 0≤a∧a≤100∧0≤n∧n≤1000 then pw a n.toNat else 0
def iv (a:Int):Int:=pw a 99
def kN (a:Int):Int:=if 0≤a∧a≤100 then iv a else 0
def fl (n:Int):Nat→Int
 |0=>1
 |i+1=>fl n i*((n-i)%101)%101
def lD (n k:Int):Int:=if 0≤n∧n≤60∧0≤k∧k≤60 then fl n k.toNat else 0
def fQ (n k:Int):Int:=if 0≤n∧n≤60∧0≤k∧k≤n then fl n k.toNat*iv (fl k k.toNat)%101 else 0
def Cg (a b:Int):Int:=if 0≤a∧a≤100∧0≤b∧b≤100 then a*iv b%101 else 0
theorem Md (a:Int) (n:Nat):0≤pw a n∧pw a n≤100:=by
 cases n with
 |zero=>simp[pw]
 |succ n=>simp only[pw];omega
theorem GH (a:Int):0≤iv a∧iv a≤100:=Md a 99
theorem FW (n:Int) (i:Nat):0≤fl n i∧fl n i≤100:=by
 cases i with
 |zero=>simp[fl]
 |succ i=>simp only[fl];omega
theorem pI {a b:Int} (ha:0≤a) (ha':a≤100) (hb:0≤b) (hb':b≤100):0≤a*b∧a*b≤10000:=by
 refine⟨Int.mul_nonneg ha hb,?_⟩
 calc a*b≤100*100:=Int.mul_le_mul ha' hb' hb (by omega)
  _=10000:=by omega
theorem Rm (a:Int) (n:Nat):pw a n=a ^ n%101:=by
 induction n with
 |zero=>simp[pw]
 |succ n ih=>simp only[pw,ih,Int.pow_succ];rw[Int.mul_emod,Int.emod_emod_of_dvd _ (Int.dvd_refl 101),←Int.mul_emod]
theorem UK (a:Int) (n:Nat):(a%101) ^ n%101=a ^ n%101:=by
 induction n with
 |zero=>simp
 |succ n ih=>
  rw[Int.pow_succ,Int.pow_succ,Int.mul_emod,ih,Int.emod_emod_of_dvd _ (Int.dvd_refl 101),←Int.mul_emod]
def rW (a:Int) (n:Nat) (b m x:Int):Prop:=x*b ^ m.toNat%101=a ^ n%101
theorem OP (a:Int) (n:Int):rW a n.toNat a n 1:=by unfold rW;rw[Int.one_mul]
theorem YY {a:Int} {n:Nat} {b x:Int} (h:rW a n b 0 x) (h0:0≤x) (h1:x≤100):x=pw a n:=by unfold rW at h;rw[Rm,←h];simp;omega
theorem Gd (b:Int) (m:Nat):(b*b) ^ m=b ^ (2*m):=by rw[Int.pow_mul,Int.pow_succ,Int.pow_succ,Int.pow_zero,Int.one_mul]
theorem SS {a:Int} {n:Nat} {b m x:Int} (h:rW a n b m x) (hm:0<m) (he:m%2=0):rW a n (b*b%101) (m / 2) x:=by
 unfold rW at *;rw[←h];have e:m.toNat=2*(m / 2).toNat:=by omega
 rw[e,←Gd,Int.mul_emod,UK,←Int.mul_emod]
theorem YZ {a:Int} {n:Nat} {b m x:Int} (h:rW a n b m x) (hm:0<m) (he:m%2=1):rW a n (b*b%101) (m / 2) (x*b%101):=by
 unfold rW at *;rw[←h];have e:m.toNat=2*(m / 2).toNat+1:=by omega
 rw[e,Int.pow_succ,←Gd,Int.mul_emod,UK,Int.emod_emod_of_dvd _ (Int.dvd_refl 101),←Int.mul_emod];congr 1;rw[Int.mul_assoc,Int.mul_comm b]
theorem Ib (n:Int) (j i:Nat) (hn:n=j) (h:j<i):fl n i=0:=by
 induction i with
 |zero=>omega
 |succ i ih=>
  simp only[fl];by_cases e:j=i
  ·subst e;subst hn;have:((j:Int)-j)%101=0:=by omega
   rw[this];simp
  ·rw[ih (by omega)];simp
theorem Ia (n:Int) (j:Nat) (h:(j:Int)≤n) (hn:n≤60):fl n (j+1)=fl n j*(n-j)%101:=by
 simp only[fl];have:(n-(j:Int))%101=n-j:=by omega
 rw[this]
theorem nE {k:IntKind} {a b:Int} (h:a=b):Ending.returned (.int k a)= .returned (.int k b):=by rw[h]
theorem jW {a b:Int} (h1:0≤a) (h2:a≤100) (h3:0≤b) (h4:b≤100):rQ a b=a*b%101:=if_pos ⟨h1,h2,h3,h4⟩
theorem TW {a b:Int} (h1:0≤a) (h2:a≤100) (h3:0≤b) (h4:b≤100):Cg a b=a*iv b%101:=if_pos ⟨h1,h2,h3,h4⟩
theorem wD {a:Int} (h1:0≤a) (h2:a≤100):kN a=iv a:=if_pos ⟨h1,h2⟩
theorem TY {a n:Int} (h1:0≤a) (h2:a≤100) (h3:0≤n) (h4:n≤1000):Hw a n=pw a n.toNat:=if_pos ⟨h1,h2,h3,h4⟩
theorem wC {n k:Int} (h1:0≤n) (h2:n≤60) (h3:0≤k) (h4:k≤60):lD n k=fl n k.toNat:=if_pos ⟨h1,h2,h3,h4⟩
theorem BW {n k:Int} (h1:0≤n) (h2:n≤60) (h3:0≤k) (h4:k≤n):fQ n k=fl n k.toNat*iv (fl k k.toNat)%101:=if_pos ⟨h1,h2,h3,h4⟩
theorem MR {a b:Int} (h:¬(0≤a∧a≤100∧0≤b∧b≤100)):rQ a b=0:=if_neg h
theorem Ch {a b:Int} (h:¬(0≤a∧a≤100∧0≤b∧b≤100)):Cg a b=0:=if_neg h
theorem MQ {a:Int} (h:¬(0≤a∧a≤100)):kN a=0:=if_neg h
theorem MS {a n:Int} (h:¬(0≤a∧a≤100∧0≤n∧n≤1000)):Hw a n=0:=if_neg h
theorem FV {n k:Int} (h:¬(0≤n∧n≤60∧0≤k∧k≤60)):lD n k=0:=if_neg h
theorem zK {n k:Int} (h:¬(0≤n∧n≤60∧0≤k∧k≤n)):fQ n k=0:=if_neg h
theorem AA {a b:Int} (h:(a==b)=false):a≠b:=by simpa using h
theorem Hx (a:Int):Hw a 99=kN a:=by
 by_cases h:0≤a∧a≤100
 ·rw[TY h.1 h.2 (by omega) (by omega),wD h.1 h.2];rfl
 ·rw[MS (by omega),MQ h]
theorem MO {n k:Int} (h1:0≤n) (h2:n≤60) (h3:0≤k) (h4:k≤n):rQ (lD n k) (kN (lD k k))=fQ n k:=by
 have b1:=FW n k.toNat;have b2:=FW k k.toNat
 have b3:=GH (fl k k.toNat);rw[BW h1 h2 h3 h4,wC h1 h2 h3 (by omega),wC h3 (by omega) h3 (by omega),wD b2.1 b2.2,jW b1.1 b1.2 b3.1 b3.2]
theorem oQ (a:Int):0≤kN a∧kN a≤100:=by have:=GH a;unfold kN;split<;>omega
theorem IB:∀a:Fin 101,∀b:Fin 101,a.val*b.val%101=0→a.val=0∨b.val=0:=by decide+kernel
theorem JY {a b:Int} (ha:0≤a∧a≤100) (hb:0≤b∧b≤100) (h:a*b%101=0):a=0∨b=0:=by
 obtain⟨x,rfl⟩:=Int.eq_ofNat_of_zero_le ha.1;obtain⟨y,rfl⟩:=Int.eq_ofNat_of_zero_le hb.1;have:=IB ⟨x,by omega⟩ ⟨y,by omega⟩ (by simp only;omega)
 simp only at this;omega
theorem TX {a b:Int} (ha:0≤a∧a≤100) (hb:0≤b∧b≤100) (h1:a≠0) (h2:b≠0):rQ a b≠0:=by
 rw[jW ha.1 ha.2 hb.1 hb.2];intro h;have:=JY ha hb h
 omega
theorem Ii:∀a:Fin 101,a.val≠0→pw (a.val:Int) 99*(a.val:Int)%101=1:=by decide+kernel
theorem Nl {b:Int} (hb:0≤b∧b≤100) (h0:b≠0):iv b*b%101=1:=by obtain⟨x,rfl⟩:=Int.eq_ofNat_of_zero_le hb.1;exact Ii ⟨x,by omega⟩ (by simp only;omega)
theorem wF {b:Int} (hb:0≤b∧b≤100) (h0:b≠0):rQ (kN b) b=1:=by rw[wD hb.1 hb.2,jW (GH b).1 (GH b).2 hb.1 hb.2,Nl hb h0]
open Go.RowKit
set_option linter.unusedVariables false
theorem rC (a:Int) (w:World) (h1:0≤a) (h2:a≤100):Calls Tryz.prog 71 #[.int .i64 a] w fun e w'=>e= .returned (.bool true)∧w'=w:=by have d1:decide (a<101)=true:=decide_eq_true (by omega);go_enter Tryz.func71,Tryz.ntmps71;go_wp2;go_ret;exact⟨rfl,rfl⟩
theorem oU (a:Int) (w:World) (h:a<0∨100<a):Calls Tryz.prog 71 #[.int .i64 a] w fun e w'=>e= .returned (.bool false)∧w'=w:=by
 rcases h with h|h
 ·go_enter Tryz.func71,Tryz.ntmps71;go_wp2;go_ret;exact⟨rfl,rfl⟩
 ·have d1:decide (a<101)=false:=decide_eq_false (by omega);go_enter Tryz.func71,Tryz.ntmps71;go_wp2;go_ret;exact⟨rfl,rfl⟩
theorem cQ (n l h:Int) (w:World) (h1:l≤n) (h2:n≤h):Calls Tryz.prog 39 #[.int .i64 n,.int .i64 l,.int .i64 h] w fun e w'=>e= .returned (.bool true)∧w'=w:=by have d1:decide (n≤h)=true:=decide_eq_true h2;go_enter Tryz.func39,Tryz.ntmps39;go_wp2;go_ret;exact⟨rfl,rfl⟩
theorem eC (n l h:Int) (w:World) (hh:n<l∨(l≤n∧h<n)):Calls Tryz.prog 39 #[.int .i64 n,.int .i64 l,.int .i64 h] w fun e w'=>e= .returned (.bool false)∧w'=w:=by
 rcases hh with h1|⟨h1,h2⟩
 ·go_enter Tryz.func39,Tryz.ntmps39;go_wp2;go_ret;exact⟨rfl,rfl⟩
 ·have d1:decide (n≤h)=false:=decide_eq_false (by omega);go_enter Tryz.func39,Tryz.ntmps39;go_wp2;go_ret;exact⟨rfl,rfl⟩
theorem KB (a:Int) (w:World) (h1:0≤a) (h2:a≤100):Calls Tryz.prog 156 #[.int .i64 a] w fun e w'=>e= .returned (.bool true)∧w'=w:=by go_enter Tryz.func156,Tryz.ntmps156;go_wp2_with (first|(go_at_call 39;first|(refine(cQ _ _ _ _ (by omega) (by omega)).mono ?_;rintro e w' ⟨rfl,rfl⟩)|(refine(eC _ _ _ _ (by omega)).mono ?_;rintro e w' ⟨rfl,rfl⟩)));go_ret;exact⟨rfl,rfl⟩
theorem AR (a:Int) (w:World) (h:a<0∨100<a):Calls Tryz.prog 156 #[.int .i64 a] w fun e w'=>e= .returned (.bool false)∧w'=w:=by
 rcases h with h|h
 ·go_enter Tryz.func156,Tryz.ntmps156;go_wp2_with (first|(go_at_call 39;first|(refine(cQ _ _ _ _ (by omega) (by omega)).mono ?_;rintro e w' ⟨rfl,rfl⟩)|(refine(eC _ _ _ _ (by omega)).mono ?_;rintro e w' ⟨rfl,rfl⟩)));go_ret;exact⟨rfl,rfl⟩
 ·go_enter Tryz.func156,Tryz.ntmps156;go_wp2_with (first|(go_at_call 39;first|(refine(cQ _ _ _ _ (by omega) (by omega)).mono ?_;rintro e w' ⟨rfl,rfl⟩)|(refine(eC _ _ _ _ (by omega)).mono ?_;rintro e w' ⟨rfl,rfl⟩)));go_ret;exact⟨rfl,rfl⟩
theorem oI (a b:Int) (w:World) (h1:0≤a) (h2:a≤100) (h3:0≤b) (h4:b≤100):Calls Tryz.prog 117 #[.int .i64 a,.int .i64 b] w fun e w'=>e= .returned (.int .i64 (a*b%101))∧w'=w:=by obtain⟨hm1,hm2⟩:=pI h1 h2 h3 h4;go_enter Tryz.func117,Tryz.ntmps117;go_wp2;go_ret;exact⟨rfl,rfl⟩
theorem Rc (a b:Int) (w:World) (h1:0≤a) (h2:a≤100) (h3:0≤b) (h4:b≤100):Calls Tryz.prog 176 #[.int .i64 a,.int .i64 b] w fun e w'=>e= .returned (.int .i64 ((a+b)%101))∧w'=w:=by go_enter Tryz.func176,Tryz.ntmps176;go_wp2;go_ret;exact⟨rfl,rfl⟩
theorem Qp (a b:Int) (w:World):Calls Tryz.prog 72 #[.int .i64 a,.int .i64 b] w fun e w'=>e= .returned (.int .i64 (rQ a b))∧w'=w:=by
 by_cases h:0≤a∧a≤100∧0≤b∧b≤100
 ·rw[jW h.1 h.2.1 h.2.2.1 h.2.2.2];obtain⟨h1,h2,h3,h4⟩:=h;obtain⟨hm1,hm2⟩:=pI h1 h2 h3 h4;go_enter Tryz.func72,Tryz.ntmps72;go_wp2_with (first|(go_at_call 71;first|(refine(rC _ _ (by omega) (by omega)).mono ?_;rintro e w' ⟨rfl,rfl⟩)|(refine(oU _ _ (by omega)).mono ?_;rintro e w' ⟨rfl,rfl⟩))|(go_at_call 117;refine(oI _ _ _ (by omega) (by omega) (by omega) (by omega)).mono ?_;rintro e w' ⟨rfl,rfl⟩));go_ret;exact⟨rfl,rfl⟩
 ·rw[MR h];have h':a<0∨100<a∨(0≤a∧a≤100∧b<0)∨(0≤a∧a≤100∧100<b):=by omega
  clear h;rcases h' with h|h|⟨h1,h2,h3⟩|⟨h1,h2,h3⟩
  all_goals
   go_enter Tryz.func72,Tryz.ntmps72;go_wp2_with (first|(go_at_call 71;first|(refine(rC _ _ (by omega) (by omega)).mono ?_;rintro e w' ⟨rfl,rfl⟩)|(refine(oU _ _ (by omega)).mono ?_;rintro e w' ⟨rfl,rfl⟩))|(go_at_call 117;refine(oI _ _ _ (by omega) (by omega) (by omega) (by omega)).mono ?_;rintro e w' ⟨rfl,rfl⟩));go_ret;exact⟨rfl,rfl⟩
theorem Te (a b:Int) (w:World):Calls Tryz.prog 175 #[.int .i64 a,.int .i64 b] w fun e w'=>e= .returned (.int .i64 (rQ a b))∧w'=w:=by
 by_cases h:0≤a∧a≤100∧0≤b∧b≤100
 ·rw[jW h.1 h.2.1 h.2.2.1 h.2.2.2];obtain⟨h1,h2,h3,h4⟩:=h;obtain⟨hm1,hm2⟩:=pI h1 h2 h3 h4;go_enter Tryz.func175,Tryz.ntmps175;go_wp2_with (first|(go_at_call 156;first|(refine(KB _ _ (by omega) (by omega)).mono ?_;rintro e w' ⟨rfl,rfl⟩)|(refine(AR _ _ (by omega)).mono ?_;rintro e w' ⟨rfl,rfl⟩)));go_ret;exact⟨rfl,rfl⟩
 ·rw[MR h];have h':a<0∨100<a∨(0≤a∧a≤100∧b<0)∨(0≤a∧a≤100∧100<b):=by omega
  clear h;rcases h' with h|h|⟨h1,h2,h3⟩|⟨h1,h2,h3⟩
  all_goals
   go_enter Tryz.func175,Tryz.ntmps175;go_wp2_with (first|(go_at_call 156;first|(refine(KB _ _ (by omega) (by omega)).mono ?_;rintro e w' ⟨rfl,rfl⟩)|(refine(AR _ _ (by omega)).mono ?_;rintro e w' ⟨rfl,rfl⟩)));go_ret;exact⟨rfl,rfl⟩
theorem Rh (a n:Int) (w:World) (h1:0≤a) (h2:a≤100) (h3:0≤n) (h4:n≤1000):Calls Tryz.prog 158 #[.int .i64 a,.int .i64 n] w fun e w'=>e= .returned (.int .i64 (pw a n.toNat))∧w'=w:=by
 go_enter Tryz.func158,Tryz.ntmps158;go_wp2
 go_loop [0,1,5] (fun a' n' r=>∃b m x:Int,a'= .int .i64 b∧n'= .int .i64 m∧r= .int .i64 x∧0≤b∧b≤100∧0≤m∧m≤1000∧0≤x∧x≤100∧rW a n.toNat b m x) (fun _ n' _=>(intOf n').toNat)
 case atStart=>exact⟨a,n,1,rfl,rfl,rfl,h1,h2,h3,h4,by omega,by omega,OP a n⟩
 case round=>
  obtain⟨b,m,x,rfl,rfl,rfl,b1,b2,m1,m2,x1,x2,hI⟩:=hrel;by_cases hm:0<m
  ·obtain⟨s1,s2⟩:=pI b1 b2 b1 b2;by_cases ho:m%2=1
   ·obtain⟨t1,t2⟩:=pI x1 x2 b1 b2;have hI':=YZ hI hm ho
    clear hI;have hb:(m%2==1)=true:=by simp[ho]
    clear ho;go_wp2;go_round;case rel=>exact⟨_,_,_,rfl,rfl,rfl,by omega,by omega,by omega,by omega,by omega,by omega,hI'⟩
    case measure=>simp[intOf];omega
   ·have hI':=SS hI hm (by omega);clear hI;have hb:(m%2==1)=false:=by simp[ho]
    clear ho;go_wp2;go_round;case rel=>exact⟨_,_,_,rfl,rfl,rfl,by omega,by omega,by omega,by omega,by omega,by omega,hI'⟩
    case measure=>simp[intOf];omega
  ·have e:m=0:=by omega
   subst e;go_wp2;go_ret;exact⟨nE (YY hI x1 x2),rfl⟩
theorem Th (a n:Int) (w:World):Calls Tryz.prog 130 #[.int .i64 a,.int .i64 n] w fun e w'=>e= .returned (.int .i64 (Hw a n))∧w'=w:=by
 by_cases h:0≤a∧a≤100∧0≤n∧n≤1000
 ·rw[TY h.1 h.2.1 h.2.2.1 h.2.2.2];obtain⟨h1,h2,h3,h4⟩:=h;go_enter Tryz.func130,Tryz.ntmps130;go_wp2_with (first|(go_at_call 156;first|(refine(KB _ _ (by omega) (by omega)).mono ?_;rintro e w' ⟨rfl,rfl⟩)|(refine(AR _ _ (by omega)).mono ?_;rintro e w' ⟨rfl,rfl⟩))|(go_at_call 39;first|(refine(cQ _ _ _ _ (by omega) (by omega)).mono ?_;rintro e w' ⟨rfl,rfl⟩)|(refine(eC _ _ _ _ (by omega)).mono ?_;rintro e w' ⟨rfl,rfl⟩)))
  go_loop [5,6] (fun x i=>∃k:Nat,(k:Int)≤n∧i= .int .i64 k∧x= .int .i64 (pw a k)) (fun _ i=>(n-intOf i).toNat)
  case atStart=>exact⟨0,by omega,rfl,rfl⟩
  case round=>
   obtain⟨k,hk,rfl,rfl⟩:=hrel;obtain⟨p1,p2⟩:=Md a k;by_cases hlt:(k:Int)<n
   ·obtain⟨t1,t2⟩:=pI p1 p2 h1 h2;go_wp2;go_round;case rel=>exact⟨k+1,by omega,by go_num,rfl⟩
    case measure=>simp[intOf];omega
   ·go_wp2;go_ret;exact⟨nE (by rw[show n.toNat=k by omega]),rfl⟩
 ·rw[MS h];have h':a<0∨100<a∨(0≤a∧a≤100∧n<0)∨(0≤a∧a≤100∧1000<n):=by omega
  clear h;rcases h' with h|h|⟨h1,h2,h3⟩|⟨h1,h2,h3⟩
  all_goals
   go_enter Tryz.func130,Tryz.ntmps130;go_wp2_with (first|(go_at_call 156;first|(refine(KB _ _ (by omega) (by omega)).mono ?_;rintro e w' ⟨rfl,rfl⟩)|(refine(AR _ _ (by omega)).mono ?_;rintro e w' ⟨rfl,rfl⟩))|(go_at_call 39;first|(refine(cQ _ _ _ _ (by omega) (by omega)).mono ?_;rintro e w' ⟨rfl,rfl⟩)|(refine(eC _ _ _ _ (by omega)).mono ?_;rintro e w' ⟨rfl,rfl⟩)));go_ret;exact⟨rfl,rfl⟩
theorem wJ (a:Int) (w:World) (h1:0≤a) (h2:a≤100):Calls Tryz.prog 134 #[.int .i64 a] w fun e w'=>e= .returned (.int .i64 (iv a))∧w'=w:=by go_enter Tryz.func134,Tryz.ntmps134;go_wp2_with (first|(go_at_call 158;refine(Rh _ _ _ (by omega) (by omega) (by omega) (by omega)).mono ?_;rintro e w' ⟨rfl,rfl⟩));go_ret;exact⟨rfl,rfl⟩
theorem Qj (a:Int) (w:World):Calls Tryz.prog 94 #[.int .i64 a] w fun e w'=>e= .returned (.int .i64 (kN a))∧w'=w:=by
 by_cases h:0≤a∧a≤100
 ·rw[wD h.1 h.2];obtain⟨h1,h2⟩:=h;go_enter Tryz.func94,Tryz.ntmps94;go_wp2_with (first|(go_at_call 71;first|(refine(rC _ _ (by omega) (by omega)).mono ?_;rintro e w' ⟨rfl,rfl⟩)|(refine(oU _ _ (by omega)).mono ?_;rintro e w' ⟨rfl,rfl⟩))|(go_at_call 134;refine(wJ _ _ (by omega) (by omega)).mono ?_;rintro e w' ⟨rfl,rfl⟩));go_ret;exact⟨rfl,rfl⟩
 ·rw[MQ h];have h':a<0∨100<a:=by omega
  clear h;rcases h' with h|h
  all_goals
   go_enter Tryz.func94,Tryz.ntmps94;go_wp2_with (first|(go_at_call 71;first|(refine(rC _ _ (by omega) (by omega)).mono ?_;rintro e w' ⟨rfl,rfl⟩)|(refine(oU _ _ (by omega)).mono ?_;rintro e w' ⟨rfl,rfl⟩))|(go_at_call 134;refine(wJ _ _ (by omega) (by omega)).mono ?_;rintro e w' ⟨rfl,rfl⟩));go_ret;exact⟨rfl,rfl⟩
theorem Nk (a:Int) (w:World):Calls Tryz.prog 89 #[.int .i64 a] w fun e w'=>e= .returned (.int .i64 (kN a))∧w'=w:=by go_enter Tryz.func89,Tryz.ntmps89;go_wp2_with (first|(go_at_call 130;refine(Th _ _ _).mono ?_;rintro e w' ⟨rfl,rfl⟩));go_ret;exact⟨nE (Hx a),rfl⟩
theorem Sz (a b:Int) (w:World):Calls Tryz.prog 167 #[.int .i64 a,.int .i64 b] w fun e w'=>e= .returned (.int .i64 (Cg a b))∧w'=w:=by
 by_cases h:0≤a∧a≤100∧0≤b∧b≤100
 ·rw[TW h.1 h.2.1 h.2.2.1 h.2.2.2];obtain⟨h1,h2,h3,h4⟩:=h;obtain⟨i1,i2⟩:=GH b;go_enter Tryz.func167,Tryz.ntmps167;go_wp2_with (first|(go_at_call 71;first|(refine(rC _ _ (by omega) (by omega)).mono ?_;rintro e w' ⟨rfl,rfl⟩)|(refine(oU _ _ (by omega)).mono ?_;rintro e w' ⟨rfl,rfl⟩))|(go_at_call 134;refine(wJ _ _ (by omega) (by omega)).mono ?_;rintro e w' ⟨rfl,rfl⟩)|(go_at_call 117;refine(oI _ _ _ (by omega) (by omega) (by omega) (by omega)).mono ?_;rintro e w' ⟨rfl,rfl⟩));go_ret;exact⟨rfl,rfl⟩
 ·rw[Ch h];have h':a<0∨100<a∨(0≤a∧a≤100∧b<0)∨(0≤a∧a≤100∧100<b):=by omega
  clear h;rcases h' with h|h|⟨h1,h2,h3⟩|⟨h1,h2,h3⟩
  all_goals
   go_enter Tryz.func167,Tryz.ntmps167;go_wp2_with (first|(go_at_call 71;first|(refine(rC _ _ (by omega) (by omega)).mono ?_;rintro e w' ⟨rfl,rfl⟩)|(refine(oU _ _ (by omega)).mono ?_;rintro e w' ⟨rfl,rfl⟩))|(go_at_call 134;refine(wJ _ _ (by omega) (by omega)).mono ?_;rintro e w' ⟨rfl,rfl⟩)|(go_at_call 117;refine(oI _ _ _ (by omega) (by omega) (by omega) (by omega)).mono ?_;rintro e w' ⟨rfl,rfl⟩));go_ret;exact⟨rfl,rfl⟩
theorem sU (a:Int) (w:World) (h1:0≤a) (h2:a≤60):Calls Tryz.prog 205 #[.int .i64 a] w fun e w'=>e= .returned (.bool true)∧w'=w:=by have d1:decide (a≤60)=true:=decide_eq_true h2;go_enter Tryz.func205,Tryz.ntmps205;go_wp2;go_ret;exact⟨rfl,rfl⟩
theorem qQ (a:Int) (w:World) (h:a<0∨60<a):Calls Tryz.prog 205 #[.int .i64 a] w fun e w'=>e= .returned (.bool false)∧w'=w:=by
 rcases h with h|h
 ·go_enter Tryz.func205,Tryz.ntmps205;go_wp2;go_ret;exact⟨rfl,rfl⟩
 ·have d1:decide (a≤60)=false:=decide_eq_false (by omega);go_enter Tryz.func205,Tryz.ntmps205;go_wp2;go_ret;exact⟨rfl,rfl⟩
theorem Hy (n k:Int) (w:World) (h1:0≤n) (h2:n≤60) (h3:0≤k) (h4:k≤60):Calls Tryz.prog 206 #[.int .i64 n,.int .i64 k] w fun e w'=>e= .returned (.int .i64 (fl n k.toNat))∧w'=w:=by
 go_enter Tryz.func206,Tryz.ntmps206;go_wp2
 go_loop [0,5,7] (fun a' r i=>∃j:Nat,(j:Int)≤k∧(j:Int)≤n∧a'= .int .i64 (n-j)∧r= .int .i64 (fl n j)∧i= .int .i64 j) (fun _ _ i=>(k-intOf i).toNat)
 case atStart=>exact⟨0,by omega,by omega,by simp,rfl,rfl⟩
 case round=>
  obtain⟨j,hj,hjn,rfl,rfl,rfl⟩:=hrel;obtain⟨p1,p2⟩:=FW n j;by_cases hlt:(j:Int)<k
  ·by_cases hz:n-(j:Int)=0
   ·have hb:(n-(j:Int)==0)=true:=by simp[hz]
    have hf:Hid (fl n k.toNat=0):=Ib n j k.toNat (by omega) (by omega);clear hz;go_wp2;go_ret;exact⟨nE hf.out.symm,rfl⟩
   ·have hb:(n-(j:Int)==0)=false:=by simp[hz]
    clear hz;have hp:0<n-(j:Int):=by have:=AA hb;omega
    obtain⟨t1,t2⟩:=pI p1 p2 (show(0:Int)≤n-j by omega) (show n-(j:Int)≤100 by omega);have hs:Hid (fl n (j+1)=fl n j*(n-j)%101):=Ia n j hjn h2
    go_wp2;go_round;case rel=>exact⟨j+1,by omega,by omega,congrArg (Value.int .i64) (by omega),by rw[hs.out];rfl,by go_num⟩
    case measure=>simp[intOf];omega
  ·go_wp2;go_ret;exact⟨nE (by rw[show k.toNat=j by omega]),rfl⟩
theorem Lz (n k:Int) (w:World):Calls Tryz.prog 164 #[.int .i64 n,.int .i64 k] w fun e w'=>e= .returned (.int .i64 (lD n k))∧w'=w:=by
 by_cases h:0≤n∧n≤60∧0≤k∧k≤60
 ·rw[wC h.1 h.2.1 h.2.2.1 h.2.2.2];obtain⟨h1,h2,h3,h4⟩:=h;go_enter Tryz.func164,Tryz.ntmps164;go_wp2_with (first|(go_at_call 39;first|(refine(cQ _ _ _ _ (by omega) (by omega)).mono ?_;rintro e w' ⟨rfl,rfl⟩)|(refine(eC _ _ _ _ (by omega)).mono ?_;rintro e w' ⟨rfl,rfl⟩)))
  go_loop [5,6] (fun x i=>∃j:Nat,(j:Int)≤k∧i= .int .i64 j∧x= .int .i64 (fl n j)) (fun _ i=>(k-intOf i).toNat)
  case atStart=>exact⟨0,by omega,rfl,rfl⟩
  case round=>
   obtain⟨j,hj,rfl,rfl⟩:=hrel;obtain⟨p1,p2⟩:=FW n j;by_cases hlt:(j:Int)<k
   ·obtain⟨t1,t2⟩:=pI p1 p2 (show(0:Int)≤(n-j)%101 by omega) (show(n-(j:Int))%101≤100 by omega);go_wp2;go_round;case rel=>exact⟨j+1,by omega,by go_num,rfl⟩
    case measure=>simp[intOf];omega
   ·go_wp2;go_ret;exact⟨nE (by rw[show k.toNat=j by omega]),rfl⟩
 ·rw[FV h];have h':n<0∨60<n∨(0≤n∧n≤60∧k<0)∨(0≤n∧n≤60∧60<k):=by omega
  clear h;rcases h' with h|h|⟨h1,h2,h3⟩|⟨h1,h2,h3⟩
  all_goals
   go_enter Tryz.func164,Tryz.ntmps164;go_wp2_with (first|(go_at_call 39;first|(refine(cQ _ _ _ _ (by omega) (by omega)).mono ?_;rintro e w' ⟨rfl,rfl⟩)|(refine(eC _ _ _ _ (by omega)).mono ?_;rintro e w' ⟨rfl,rfl⟩)));go_ret;exact⟨rfl,rfl⟩
theorem Qb (n k:Int) (w:World):Calls Tryz.prog 194 #[.int .i64 n,.int .i64 k] w fun e w'=>e= .returned (.int .i64 (lD n k))∧w'=w:=by
 by_cases h:0≤n∧n≤60∧0≤k∧k≤60
 ·rw[wC h.1 h.2.1 h.2.2.1 h.2.2.2];obtain⟨h1,h2,h3,h4⟩:=h;go_enter Tryz.func194,Tryz.ntmps194;go_wp2_with (first|(go_at_call 205;first|(refine(sU _ _ (by omega) (by omega)).mono ?_;rintro e w' ⟨rfl,rfl⟩)|(refine(qQ _ _ (by omega)).mono ?_;rintro e w' ⟨rfl,rfl⟩))|(go_at_call 206;refine(Hy _ _ _ (by omega) (by omega) (by omega) (by omega)).mono ?_;rintro e w' ⟨rfl,rfl⟩));go_ret;exact⟨rfl,rfl⟩
 ·rw[FV h];have h':n<0∨60<n∨(0≤n∧n≤60∧k<0)∨(0≤n∧n≤60∧60<k):=by omega
  clear h;rcases h' with h|h|⟨h1,h2,h3⟩|⟨h1,h2,h3⟩
  all_goals
   go_enter Tryz.func194,Tryz.ntmps194;go_wp2_with (first|(go_at_call 205;first|(refine(sU _ _ (by omega) (by omega)).mono ?_;rintro e w' ⟨rfl,rfl⟩)|(refine(qQ _ _ (by omega)).mono ?_;rintro e w' ⟨rfl,rfl⟩))|(go_at_call 206;refine(Hy _ _ _ (by omega) (by omega) (by omega) (by omega)).mono ?_;rintro e w' ⟨rfl,rfl⟩));go_ret;exact⟨rfl,rfl⟩
theorem Ho (n k:Int) (w:World):Calls Tryz.prog 193 #[.int .i64 n,.int .i64 k] w fun e w'=>e= .returned (.int .i64 (fQ n k))∧w'=w:=by
 by_cases h:0≤n∧n≤60∧0≤k∧k≤n
 ·rw[BW h.1 h.2.1 h.2.2.1 h.2.2.2];obtain⟨h1,h2,h3,h4⟩:=h;obtain⟨p1,p2⟩:=FW n k.toNat;obtain⟨q1,q2⟩:=FW k k.toNat;obtain⟨r1,r2⟩:=GH (fl k k.toNat);have d1:decide (n<k)=false:=decide_eq_false (by omega)
  go_enter Tryz.func193,Tryz.ntmps193;go_wp2_with (first|(go_at_call 205;first|(refine(sU _ _ (by omega) (by omega)).mono ?_;rintro e w' ⟨rfl,rfl⟩)|(refine(qQ _ _ (by omega)).mono ?_;rintro e w' ⟨rfl,rfl⟩))|(go_at_call 206;refine(Hy _ _ _ (by omega) (by omega) (by omega) (by omega)).mono ?_;rintro e w' ⟨rfl,rfl⟩)|(go_at_call 134;refine(wJ _ _ (by omega) (by omega)).mono ?_;rintro e w' ⟨rfl,rfl⟩)|(go_at_call 117;refine(oI _ _ _ (by omega) (by omega) (by omega) (by omega)).mono ?_;rintro e w' ⟨rfl,rfl⟩));go_ret;exact⟨rfl,rfl⟩
 ·rw[zK h];have h':n<0∨60<n∨(0≤n∧n≤60∧k<0)∨(0≤n∧n≤60∧0≤k∧n<k):=by omega
  clear h;rcases h' with h|h|⟨h1,h2,h3⟩|⟨h1,h2,h3,h4⟩
  all_goals
   go_enter Tryz.func193,Tryz.ntmps193;go_wp2_with (first|(go_at_call 205;first|(refine(sU _ _ (by omega) (by omega)).mono ?_;rintro e w' ⟨rfl,rfl⟩)|(refine(qQ _ _ (by omega)).mono ?_;rintro e w' ⟨rfl,rfl⟩))|(go_at_call 206;refine(Hy _ _ _ (by omega) (by omega) (by omega) (by omega)).mono ?_;rintro e w' ⟨rfl,rfl⟩));go_ret;exact⟨rfl,rfl⟩
theorem Hp (n k:Int) (w:World):Calls Tryz.prog 163 #[.int .i64 n,.int .i64 k] w fun e w'=>e= .returned (.int .i64 (fQ n k))∧w'=w:=by
 by_cases h:0≤n∧n≤60∧0≤k∧k≤n
 ·rw[←MO h.1 h.2.1 h.2.2.1 h.2.2.2];obtain⟨h1,h2,h3,h4⟩:=h;go_enter Tryz.func163,Tryz.ntmps163;go_wp2_with (first|(go_at_call 39;first|(refine(cQ _ _ _ _ (by omega) (by omega)).mono ?_;rintro e w' ⟨rfl,rfl⟩)|(refine(eC _ _ _ _ (by omega)).mono ?_;rintro e w' ⟨rfl,rfl⟩))|(go_at_call 164;refine(Lz _ _ _).mono ?_;rintro e w' ⟨rfl,rfl⟩)|(go_at_call 89;refine(Nk _ _).mono ?_;rintro e w' ⟨rfl,rfl⟩)|(go_at_call 175;refine(Te _ _ _).mono ?_;rintro e w' ⟨rfl,rfl⟩));go_ret;exact⟨rfl,rfl⟩
 ·rw[zK h];have h':n<0∨60<n∨(0≤n∧n≤60∧k<0)∨(0≤n∧n≤60∧0≤k∧n<k):=by omega
  clear h;rcases h' with h|h|⟨h1,h2,h3⟩|⟨h1,h2,h3,h4⟩
  all_goals
   go_enter Tryz.func163,Tryz.ntmps163;go_wp2_with (first|(go_at_call 39;first|(refine(cQ _ _ _ _ (by omega) (by omega)).mono ?_;rintro e w' ⟨rfl,rfl⟩)|(refine(eC _ _ _ _ (by omega)).mono ?_;rintro e w' ⟨rfl,rfl⟩)));go_ret;exact⟨rfl,rfl⟩
structure M where
 x:Int
 y:Int
 d:Int
 e:Int
def M.ok (m:M):Bool:=decide (0≤m.x∧m.x≤15∧0≤m.y∧m.y≤15∧0≤m.d∧m.d≤15∧0≤m.e∧m.e≤15)
theorem M.ok_iff {m:M}:m.ok=true↔0≤m.x∧m.x≤15∧0≤m.y∧m.y≤15∧0≤m.d∧m.d≤15∧0≤m.e∧m.e≤15:=by simp[M.ok]
theorem M.ok_not {m:M}:m.ok=false↔¬(0≤m.x∧m.x≤15∧0≤m.y∧m.y≤15∧0≤m.d∧m.d≤15∧0≤m.e∧m.e≤15):=by rw[←M.ok_iff];simp
def M.deg (m:M):Int:=if m.ok then m.x+m.y+m.d+m.e else 0
def c3 (a b:Int):Int:=if a<b then -1 else if b<a then 1 else 0
def M.lex (a b:M):Int:=if a.d≠b.d then c3 a.d b.d else if a.e≠b.e then c3 a.e b.e else if a.x≠b.x then c3 a.x b.x else c3 a.y b.y
def M.ord (o:Int) (a b:M):Int:=
 if o=1∧a.deg≠b.deg then c3 a.deg b.deg else if o=3∧a.d+a.x≠b.d+b.x then c3 (a.d+a.x) (b.d+b.x)else M.lex a b
def M.cmp (o:Int) (a b:M):Int:=if(1≤o∧o≤3)∧a.ok=true∧b.ok=true then M.ord o a b else 0
def M.zero:M:=⟨0,0,0,0⟩
def M.sum (a b:M):M:=⟨a.x+b.x,a.y+b.y,a.d+b.d,a.e+b.e⟩
def M.mul (a b:M):M×Bool:=if a.ok=true∧b.ok=true∧(a.sum b).ok=true then(a.sum b,true)else(M.zero,false)
def M.dvd (a b:M):Bool:=a.ok&&b.ok&&decide (a.x≤b.x∧a.y≤b.y∧a.d≤b.d∧a.e≤b.e)
def M.diff (b a:M):M:=⟨b.x-a.x,b.y-a.y,b.d-a.d,b.e-a.e⟩
def M.over (b a:M):M×Bool:=if a.dvd b=true then(b.diff a,true)else(M.zero,false)
theorem aA {p:Prop} (h:p):Hid p:=h
theorem aP {W w1:World} (hb:Below W.heap.size W w1):(∀b o,b<W.heap.size→w1.cell? ⟨b,o,none⟩=W.cell? ⟨b,o,none⟩)∧(∀b o,b<W.heap.size→w1.frozen? ⟨b,o,none⟩=W.frozen? ⟨b,o,none⟩):=
 ⟨fun b o h=>hb.cell (p:=⟨b,o,none⟩) h,fun b o h=>hb.frozen (p:=⟨b,o,none⟩) h⟩
theorem mR (x y d e:Int) (w:World):Calls Tryz.prog 108 #[.agg #[.int .i64 x,.int .i64 y,.int .i64 d,.int .i64 e]] w fun r w'=>r= .returned (.bool (M.ok ⟨x,y,d,e⟩))∧Below w.heap.size w w':=by
 by_cases hx:0≤x∧x≤15
 ·by_cases hy:0≤y∧y≤15
  ·by_cases hd:0≤d∧d≤15
   ·by_cases he:0≤e∧e≤15
    ·rw[M.ok_iff.2 ⟨hx.1,hx.2,hy.1,hy.2,hd.1,hd.2,he.1,he.2⟩];obtain⟨x1,x2⟩:=hx;obtain⟨y1,y2⟩:=hy;obtain⟨d1,d2⟩:=hd;obtain⟨e1,e2⟩:=he;go_enter Tryz.func108,Tryz.ntmps108;go_wp2_with (first|(go_at_call 39;first|(refine(cQ _ _ _ _ (by omega) (by omega)).mono ?_;rintro e w' ⟨rfl,rfl⟩)|(refine(eC _ _ _ _ (by omega)).mono ?_;rintro e w' ⟨rfl,rfl⟩)));go_ret;exact⟨rfl,(bL _ _).alloc (Nat.le_refl _) _⟩
    ·rw[M.ok_not.2 (fun h=>he ⟨h.2.2.2.2.2.2.1,h.2.2.2.2.2.2.2⟩)];go_enter Tryz.func108,Tryz.ntmps108;go_wp2_with (first|(go_at_call 39;first|(refine(cQ _ _ _ _ (by omega) (by omega)).mono ?_;rintro e w' ⟨rfl,rfl⟩)|(refine(eC _ _ _ _ (by omega)).mono ?_;rintro e w' ⟨rfl,rfl⟩)));go_ret;exact⟨rfl,(bL _ _).alloc (Nat.le_refl _) _⟩
   ·rw[M.ok_not.2 (fun h=>hd ⟨h.2.2.2.2.1,h.2.2.2.2.2.1⟩)];go_enter Tryz.func108,Tryz.ntmps108;go_wp2_with (first|(go_at_call 39;first|(refine(cQ _ _ _ _ (by omega) (by omega)).mono ?_;rintro e w' ⟨rfl,rfl⟩)|(refine(eC _ _ _ _ (by omega)).mono ?_;rintro e w' ⟨rfl,rfl⟩)));go_ret;exact⟨rfl,(bL _ _).alloc (Nat.le_refl _) _⟩
  ·rw[M.ok_not.2 (fun h=>hy ⟨h.2.2.1,h.2.2.2.1⟩)];go_enter Tryz.func108,Tryz.ntmps108;go_wp2_with (first|(go_at_call 39;first|(refine(cQ _ _ _ _ (by omega) (by omega)).mono ?_;rintro e w' ⟨rfl,rfl⟩)|(refine(eC _ _ _ _ (by omega)).mono ?_;rintro e w' ⟨rfl,rfl⟩)));go_ret;exact⟨rfl,(bL _ _).alloc (Nat.le_refl _) _⟩
 ·rw[M.ok_not.2 (fun h=>hx ⟨h.1,h.2.1⟩)];go_enter Tryz.func108,Tryz.ntmps108;go_wp2_with (first|(go_at_call 39;first|(refine(cQ _ _ _ _ (by omega) (by omega)).mono ?_;rintro e w' ⟨rfl,rfl⟩)|(refine(eC _ _ _ _ (by omega)).mono ?_;rintro e w' ⟨rfl,rfl⟩)));go_ret;exact⟨rfl,(bL _ _).alloc (Nat.le_refl _) _⟩
theorem cD {x y d e:Int} {b:Bool} (h:M.ok ⟨x,y,d,e⟩=b) (w:World):Calls Tryz.prog 108 #[.agg #[.int .i64 x,.int .i64 y,.int .i64 d,.int .i64 e]] w fun r w'=>r= .returned (.bool b)∧Below w.heap.size w w':=by rw[←h];exact mR x y d e w
theorem tL (x y d e:Int) (w:World):Calls Tryz.prog 126 #[.agg #[.int .i64 x,.int .i64 y,.int .i64 d,.int .i64 e]] w fun r w'=>r= .returned (.int .i64 (M.deg ⟨x,y,d,e⟩))∧Below w.heap.size w w':=by
 cases h:M.ok ⟨x,y,d,e⟩
 ·have hd:M.deg ⟨x,y,d,e⟩=0:=by simp[M.deg,h]
  rw[hd];go_enter Tryz.func126,Tryz.ntmps126;go_wp2_with fail;refine(mR _ _ _ _ _).mono ?_;rw[h];rintro r w1 ⟨rfl,hb⟩;go_wp2;go_ret;exact⟨rfl,(bL _ _).trans (((bL _ _).alloc (Nat.le_refl _) _).trans (hb.mono (by simp)))⟩
 ·have hd:M.deg ⟨x,y,d,e⟩=x+y+d+e:=by simp[M.deg,h]
  rw[hd];obtain⟨x1,x2,y1,y2,d1,d2,e1,e2⟩:=M.ok_iff.1 h;simp only at x1 x2 y1 y2 d1 d2 e1 e2;go_enter Tryz.func126,Tryz.ntmps126;go_wp2_with fail;refine(mR _ _ _ _ _).mono ?_;rw[h];rintro r w1 ⟨rfl,hb⟩;obtain⟨hc,hf⟩:=aP hb;go_wp2;go_ret;exact⟨rfl,((bL _ _).alloc (Nat.le_refl _) _).trans (hb.mono (by simp))⟩
theorem QR (a b:Int) (w:World):Calls Tryz.prog 127 #[.int .i64 a,.int .i64 b] w fun r w'=>r= .returned (.int .i64 (c3 a b))∧w'=w:=by
 by_cases h1:a<b
 ·have e1:c3 a b= -1:=by simp[c3,h1]
  rw[e1];go_enter Tryz.func127,Tryz.ntmps127;go_wp2;go_ret;exact⟨rfl,rfl⟩
 ·by_cases h2:b<a
  ·have e1:c3 a b=1:=by simp[c3,h1,h2]
   rw[e1];go_enter Tryz.func127,Tryz.ntmps127;go_wp2;go_ret;exact⟨rfl,rfl⟩
  ·have e1:c3 a b=0:=by simp[c3,h1,h2]
   rw[e1];go_enter Tryz.func127,Tryz.ntmps127;go_wp2;go_ret;exact⟨rfl,rfl⟩
theorem Iv (x y d e x' y' d' e':Int) (w:World):Calls Tryz.prog 128 #[.agg #[.int .i64 x,.int .i64 y,.int .i64 d,.int .i64 e],.agg #[.int .i64 x',.int .i64 y',.int .i64 d',.int .i64 e']] w fun r w'=>r= .returned (.int .i64 (M.lex ⟨x,y,d,e⟩ ⟨x',y',d',e'⟩))∧Below w.heap.size w w':=by
 by_cases hd:d=d'
 ·by_cases he:e=e'
  ·by_cases hx:x=x'
   ·have e1:M.lex ⟨x,y,d,e⟩ ⟨x',y',d',e'⟩=c3 y y':=by simp[M.lex,hd,he,hx]
    rw[e1];have b1:(d !=d')=false:=by simp[hd]
    have b2:(e !=e')=false:=by simp[he]
    have b3:(x !=x')=false:=by simp[hx]
    clear hd he hx e1;go_enter Tryz.func128,Tryz.ntmps128;go_wp2_with (first|(go_at_call 127;refine(QR _ _ _).mono ?_;rintro r w' ⟨rfl,rfl⟩));go_ret;exact⟨rfl,((bL _ _).alloc (Nat.le_refl _) _).alloc (by simp) _⟩
   ·have e1:M.lex ⟨x,y,d,e⟩ ⟨x',y',d',e'⟩=c3 x x':=by simp[M.lex,hd,he,hx]
    rw[e1];have b1:(d !=d')=false:=by simp[hd]
    have b2:(e !=e')=false:=by simp[he]
    have b3:(x !=x')=true:=by simp[hx]
    clear hd he hx e1;go_enter Tryz.func128,Tryz.ntmps128;go_wp2_with (first|(go_at_call 127;refine(QR _ _ _).mono ?_;rintro r w' ⟨rfl,rfl⟩));go_ret;exact⟨rfl,((bL _ _).alloc (Nat.le_refl _) _).alloc (by simp) _⟩
  ·have e1:M.lex ⟨x,y,d,e⟩ ⟨x',y',d',e'⟩=c3 e e':=by simp[M.lex,hd,he]
   rw[e1];have b1:(d !=d')=false:=by simp[hd]
   have b2:(e !=e')=true:=by simp[he]
   clear hd he e1;go_enter Tryz.func128,Tryz.ntmps128;go_wp2_with (first|(go_at_call 127;refine(QR _ _ _).mono ?_;rintro r w' ⟨rfl,rfl⟩));go_ret;exact⟨rfl,((bL _ _).alloc (Nat.le_refl _) _).alloc (by simp) _⟩
 ·have e1:M.lex ⟨x,y,d,e⟩ ⟨x',y',d',e'⟩=c3 d d':=by simp[M.lex,hd]
  rw[e1];have b1:(d !=d')=true:=by simp[hd]
  clear hd e1;go_enter Tryz.func128,Tryz.ntmps128;go_wp2_with (first|(go_at_call 127;refine(QR _ _ _).mono ?_;rintro r w' ⟨rfl,rfl⟩));go_ret;exact⟨rfl,((bL _ _).alloc (Nat.le_refl _) _).alloc (by simp) _⟩
theorem aB {w W W':World} (a:Below w.heap.size w W) (h:Below W.heap.size W W'):Below w.heap.size w W':=a.trans (h.mono a.size)
theorem aR (w:World) (A B:Obj):Below w.heap.size w ((w.alloc A).alloc B):=((bL _ _).alloc (Nat.le_refl _) _).alloc (by simp) _
theorem aY (w:World) (A B C:Obj):Below w.heap.size w (((w.alloc A).alloc B).alloc C):=(aR w A B).alloc (aR w A B).size _
theorem eD {n B:Nat} {a w:World} (h:Below n a w) (hB:n≤B) (u0 u1 u2 u3:Value):Below n a ((((w.setCell ⟨B,0,none⟩ u0).setCell ⟨B,1,none⟩ u1).setCell ⟨B,2,none⟩ u2).setCell ⟨B,3,none⟩ u3):=
 (((h.setCell hB u0).setCell hB u1).setCell hB u2).setCell hB u3
theorem UV (x y d e x' y' d' e':Int) (w:World):Calls Tryz.prog 82 #[.int .i64 1,.agg #[.int .i64 x,.int .i64 y,.int .i64 d,.int .i64 e],.agg #[.int .i64 x',.int .i64 y',.int .i64 d',.int .i64 e']] w fun r w'=>r= .returned (.int .i64 (M.ord 1 ⟨x,y,d,e⟩ ⟨x',y',d',e'⟩))∧Below w.heap.size w w':=by
 by_cases hd:M.deg ⟨x,y,d,e⟩=M.deg ⟨x',y',d',e'⟩
 ·have e1:M.ord 1 ⟨x,y,d,e⟩ ⟨x',y',d',e'⟩=M.lex ⟨x,y,d,e⟩ ⟨x',y',d',e'⟩:=by simp[M.ord,hd]
  rw[e1];have b1:(M.deg ⟨x,y,d,e⟩!=M.deg ⟨x',y',d',e'⟩)=false:=by simp[hd]
  clear hd e1;go_enter Tryz.func82,Tryz.ntmps82;go_wp2_with fail
  go_region_held3 (fun u=>u.cell? ⟨w.heap.size,0,none⟩=some (.int .i64 x)∧u.cell? ⟨w.heap.size,1,none⟩=some (.int .i64 y)∧u.cell? ⟨w.heap.size,2,none⟩=some (.int .i64 d)∧u.cell? ⟨w.heap.size,3,none⟩=some (.int .i64 e)∧u.cell? ⟨w.heap.size+1,0,none⟩=some (.int .i64 x')∧u.cell? ⟨w.heap.size+1,1,none⟩=some (.int .i64 y')∧u.cell? ⟨w.heap.size+1,2,none⟩=some (.int .i64 d')∧u.cell? ⟨w.heap.size+1,3,none⟩=some (.int .i64 e')) ((go_light;first|(refine⟨?_,?_,?_,?_,?_,?_,?_,?_⟩<;>(simp only[(aP hb4).1 _ _ hz3,(aP hb4).1 _ _ hy3, *];done))|(refine⟨?_,?_,?_,?_,?_,?_,?_,?_⟩<;>(simp only[(aP hb3).1 _ _ hz2,(aP hb3).1 _ _ hy2, *];done))|(refine⟨?_,?_,?_,?_,?_,?_,?_,?_⟩<;>(simp only[(aP hb2).1 _ _ hz1,(aP hb2).1 _ _ hy1, *];done))|(have hc:=(aP hb1).1;refine⟨?_,?_,?_,?_,?_,?_,?_,?_⟩<;>go_simp<;>done)|(refine⟨?_,?_,?_,?_,?_,?_,?_,?_⟩<;>go_simp<;>done))) (first|(go_at_call_of 126 (Value.int IntKind.i64 x);refine(tL x y d e _).mono ?_;rintro r w1 ⟨rfl,hb1⟩;have hz1:w.heap.size<w1.heap.size:=(by have:=hb1.size;first|omega|(simp at this;omega));have hy1:w.heap.size+1<w1.heap.size:=(by have:=hb1.size;first|omega|(simp at this;omega)))|(go_at_call_of 126 (Value.int IntKind.i64 x');refine(tL x' y' d' e' _).mono ?_;rintro r w2 ⟨rfl,hb2⟩;have hz2:w.heap.size<w2.heap.size:=(by have:=hb2.size;first|omega|(simp at this;omega));have hy2:w.heap.size+1<w2.heap.size:=(by have:=hb2.size;first|omega|(simp at this;omega))))
  go_wp2_with (first|(go_at_call 128;refine(Iv x y d e x' y' d' e' _).mono ?_;rintro r w5 ⟨rfl,hb5⟩));go_ret;exact⟨rfl,aB (aB (aB (aR w _ _).drew hb1) hb2) hb5⟩
 ·have e1:M.ord 1 ⟨x,y,d,e⟩ ⟨x',y',d',e'⟩=c3 (M.deg ⟨x,y,d,e⟩) (M.deg ⟨x',y',d',e'⟩):=by simp[M.ord,hd]
  rw[e1];have b1:(M.deg ⟨x,y,d,e⟩!=M.deg ⟨x',y',d',e'⟩)=true:=by simp[hd]
  clear hd e1;go_enter Tryz.func82,Tryz.ntmps82;go_wp2_with fail
  go_region_held3 (fun u=>u.cell? ⟨w.heap.size,0,none⟩=some (.int .i64 x)∧u.cell? ⟨w.heap.size,1,none⟩=some (.int .i64 y)∧u.cell? ⟨w.heap.size,2,none⟩=some (.int .i64 d)∧u.cell? ⟨w.heap.size,3,none⟩=some (.int .i64 e)∧u.cell? ⟨w.heap.size+1,0,none⟩=some (.int .i64 x')∧u.cell? ⟨w.heap.size+1,1,none⟩=some (.int .i64 y')∧u.cell? ⟨w.heap.size+1,2,none⟩=some (.int .i64 d')∧u.cell? ⟨w.heap.size+1,3,none⟩=some (.int .i64 e')) ((go_light;first|(refine⟨?_,?_,?_,?_,?_,?_,?_,?_⟩<;>(simp only[(aP hb4).1 _ _ hz3,(aP hb4).1 _ _ hy3, *];done))|(refine⟨?_,?_,?_,?_,?_,?_,?_,?_⟩<;>(simp only[(aP hb3).1 _ _ hz2,(aP hb3).1 _ _ hy2, *];done))|(refine⟨?_,?_,?_,?_,?_,?_,?_,?_⟩<;>(simp only[(aP hb2).1 _ _ hz1,(aP hb2).1 _ _ hy1, *];done))|(have hc:=(aP hb1).1;refine⟨?_,?_,?_,?_,?_,?_,?_,?_⟩<;>go_simp<;>done)|(refine⟨?_,?_,?_,?_,?_,?_,?_,?_⟩<;>go_simp<;>done))) (first|(go_at_call_of 126 (Value.int IntKind.i64 x);refine(tL x y d e _).mono ?_;rintro r w1 ⟨rfl,hb1⟩;have hz1:w.heap.size<w1.heap.size:=(by have:=hb1.size;first|omega|(simp at this;omega));have hy1:w.heap.size+1<w1.heap.size:=(by have:=hb1.size;first|omega|(simp at this;omega)))|(go_at_call_of 126 (Value.int IntKind.i64 x');refine(tL x' y' d' e' _).mono ?_;rintro r w2 ⟨rfl,hb2⟩;have hz2:w.heap.size<w2.heap.size:=(by have:=hb2.size;first|omega|(simp at this;omega));have hy2:w.heap.size+1<w2.heap.size:=(by have:=hb2.size;first|omega|(simp at this;omega))))
  go_wp2_with fail
  go_region_held3 (fun u=>u.cell? ⟨w.heap.size,0,none⟩=some (.int .i64 x)∧u.cell? ⟨w.heap.size,1,none⟩=some (.int .i64 y)∧u.cell? ⟨w.heap.size,2,none⟩=some (.int .i64 d)∧u.cell? ⟨w.heap.size,3,none⟩=some (.int .i64 e)∧u.cell? ⟨w.heap.size+1,0,none⟩=some (.int .i64 x')∧u.cell? ⟨w.heap.size+1,1,none⟩=some (.int .i64 y')∧u.cell? ⟨w.heap.size+1,2,none⟩=some (.int .i64 d')∧u.cell? ⟨w.heap.size+1,3,none⟩=some (.int .i64 e')) ((go_light;first|(refine⟨?_,?_,?_,?_,?_,?_,?_,?_⟩<;>(simp only[(aP hb4).1 _ _ hz3,(aP hb4).1 _ _ hy3, *];done))|(refine⟨?_,?_,?_,?_,?_,?_,?_,?_⟩<;>(simp only[(aP hb3).1 _ _ hz2,(aP hb3).1 _ _ hy2, *];done))|(refine⟨?_,?_,?_,?_,?_,?_,?_,?_⟩<;>(simp only[(aP hb2).1 _ _ hz1,(aP hb2).1 _ _ hy1, *];done))|(have hc:=(aP hb1).1;refine⟨?_,?_,?_,?_,?_,?_,?_,?_⟩<;>go_simp<;>done)|(refine⟨?_,?_,?_,?_,?_,?_,?_,?_⟩<;>go_simp<;>done))) (first|(go_at_call_of 126 (Value.int IntKind.i64 x);refine(tL x y d e _).mono ?_;rintro r w3 ⟨rfl,hb3⟩;have hz3:w.heap.size<w3.heap.size:=(by have:=hb3.size;first|omega|(simp at this;omega));have hy3:w.heap.size+1<w3.heap.size:=(by have:=hb3.size;first|omega|(simp at this;omega)))|(go_at_call_of 126 (Value.int IntKind.i64 x');refine(tL x' y' d' e' _).mono ?_;rintro r w4 ⟨rfl,hb4⟩;have hz4:w.heap.size<w4.heap.size:=(by have:=hb4.size;first|omega|(simp at this;omega));have hy4:w.heap.size+1<w4.heap.size:=(by have:=hb4.size;first|omega|(simp at this;omega)))|(go_at_call 127;refine(QR _ _ _).mono ?_;rintro r w' ⟨rfl,rfl⟩))
  go_wp2;go_ret;exact⟨rfl,aB (aB (aB (aB (aR w _ _).drew hb1) hb2).drew hb3) hb4⟩
theorem Qt (o:Int) (x y d e x' y' d' e':Int) (w:World) (h1:o≠1) (h3:o≠3):Calls Tryz.prog 82 #[.int .i64 o,.agg #[.int .i64 x,.int .i64 y,.int .i64 d,.int .i64 e],.agg #[.int .i64 x',.int .i64 y',.int .i64 d',.int .i64 e']] w fun r w'=>r= .returned (.int .i64 (M.ord o ⟨x,y,d,e⟩ ⟨x',y',d',e'⟩))∧Below w.heap.size w w':=by
 have e1:M.ord o ⟨x,y,d,e⟩ ⟨x',y',d',e'⟩=M.lex ⟨x,y,d,e⟩ ⟨x',y',d',e'⟩:=by simp[M.ord,h1,h3]
 rw[e1];have b1:(o==1)=false:=by simp[h1]
 have b3:(o==3)=false:=by simp[h3]
 clear e1 h1 h3;go_enter Tryz.func82,Tryz.ntmps82;go_wp2_with fail
 go_region
 all_goals
  go_wp2_with (first|(go_at_call 128;refine(Iv x y d e x' y' d' e' _).mono ?_;rintro r w5 ⟨rfl,hb5⟩));go_ret;exact⟨rfl,aB (aR w _ _).drew hb5⟩
theorem Qu (x y d e x' y' d' e':Int) (w:World) (ha:M.ok ⟨x,y,d,e⟩=true) (hb:M.ok ⟨x',y',d',e'⟩=true):Calls Tryz.prog 82 #[.int .i64 3,.agg #[.int .i64 x,.int .i64 y,.int .i64 d,.int .i64 e],.agg #[.int .i64 x',.int .i64 y',.int .i64 d',.int .i64 e']] w fun r w'=>r= .returned (.int .i64 (M.ord 3 ⟨x,y,d,e⟩ ⟨x',y',d',e'⟩))∧Below w.heap.size w w':=by
 obtain⟨x1,x2,y1,y2,d1,d2,e1,e2⟩:=M.ok_iff.1 ha;obtain⟨x3,x4,y3,y4,d3,d4,e3,e4⟩:=M.ok_iff.1 hb;simp only at x1 x2 y1 y2 d1 d2 e1 e2 x3 x4 y3 y4 d3 d4 e3 e4;clear ha hb;by_cases hs:d+x=d'+x'
 ·have r1:M.ord 3 ⟨x,y,d,e⟩ ⟨x',y',d',e'⟩=M.lex ⟨x,y,d,e⟩ ⟨x',y',d',e'⟩:=by simp[M.ord,hs]
  rw[r1];have b1:(d+x !=d'+x')=false:=by simp[hs]
  clear hs r1;go_enter Tryz.func82,Tryz.ntmps82;go_wp2_with fail
  go_region
  all_goals
   go_wp2_with (first|(go_at_call 128;refine(Iv x y d e x' y' d' e' _).mono ?_;rintro r w5 ⟨rfl,hb5⟩)|(go_at_call 127;refine(QR _ _ _).mono ?_;rintro r w' ⟨rfl,rfl⟩));go_ret;exact⟨rfl,aB (aR w _ _).drew hb5⟩
 ·have r1:M.ord 3 ⟨x,y,d,e⟩ ⟨x',y',d',e'⟩=c3 (d+x) (d'+x'):=by simp[M.ord,hs]
  rw[r1];have b1:(d+x !=d'+x')=true:=by simp[hs]
  clear hs r1;go_enter Tryz.func82,Tryz.ntmps82;go_wp2_with fail
  go_region
  all_goals
   go_wp2_with (first|(go_at_call 128;refine(Iv x y d e x' y' d' e' _).mono ?_;rintro r w5 ⟨rfl,hb5⟩)|(go_at_call 127;refine(QR _ _ _).mono ?_;rintro r w' ⟨rfl,rfl⟩));go_ret;exact⟨rfl,(aR w _ _).drew⟩
theorem Od (o:Int) (x y d e x' y' d' e':Int) (w:World) (h:o=3→M.ok ⟨x,y,d,e⟩=true∧M.ok ⟨x',y',d',e'⟩=true):Calls Tryz.prog 82 #[.int .i64 o,.agg #[.int .i64 x,.int .i64 y,.int .i64 d,.int .i64 e],.agg #[.int .i64 x',.int .i64 y',.int .i64 d',.int .i64 e']] w fun r w'=>r= .returned (.int .i64 (M.ord o ⟨x,y,d,e⟩ ⟨x',y',d',e'⟩))∧Below w.heap.size w w':=by
 by_cases h1:o=1
 ·subst h1;exact UV x y d e x' y' d' e' w
 ·by_cases h3:o=3
  ·subst h3;exact Qu x y d e x' y' d' e' w (h rfl).1 (h rfl).2
  ·exact Qt o x y d e x' y' d' e' w h1 h3
theorem UN (x y d e x' y' d' e':Int) (w:World):Calls Tryz.prog 145 #[.agg #[.int .i64 x,.int .i64 y,.int .i64 d,.int .i64 e],.agg #[.int .i64 x',.int .i64 y',.int .i64 d',.int .i64 e']] w fun r w'=>r= .returned (.tuple #[.agg #[.int .i64 (M.mul ⟨x,y,d,e⟩ ⟨x',y',d',e'⟩).1.x,.int .i64 (M.mul ⟨x,y,d,e⟩ ⟨x',y',d',e'⟩).1.y,.int .i64 (M.mul ⟨x,y,d,e⟩ ⟨x',y',d',e'⟩).1.d,.int .i64 (M.mul ⟨x,y,d,e⟩ ⟨x',y',d',e'⟩).1.e],.bool (M.mul ⟨x,y,d,e⟩ ⟨x',y',d',e'⟩).2])∧Below w.heap.size w w':=by
 cases ha:M.ok ⟨x,y,d,e⟩
 ·have r1:M.mul ⟨x,y,d,e⟩ ⟨x',y',d',e'⟩=(M.zero,false):=by simp[M.mul,ha]
  rw[r1];simp only[M.zero];go_enter Tryz.func145,Tryz.ntmps145;go_wp2_with fail;refine(mR _ _ _ _ _).mono ?_;rw[ha];rintro r w1 ⟨rfl,hb1⟩;obtain⟨hc1,hf1⟩:=aP hb1;have hz1:w.heap.size+1+1<w1.heap.size:=by have:=hb1.size;simp at this;omega
  go_wp2;refine bY (v:=.tuple #[.agg #[.int .i64 0,.int .i64 0,.int .i64 0,.int .i64 0],.bool false]) (by simp[results,Tryz.results145,go_sem, *]) rfl ⟨rfl,?_⟩;exact eD (aB (aY w _ _ _) hb1) (by omega) _ _ _ _
 ·cases hb:M.ok ⟨x',y',d',e'⟩
  ·have r1:M.mul ⟨x,y,d,e⟩ ⟨x',y',d',e'⟩=(M.zero,false):=by simp[M.mul,hb]
   rw[r1];simp only[M.zero];clear r1;go_enter Tryz.func145,Tryz.ntmps145;go_wp2_with fail;refine(mR _ _ _ _ _).mono ?_;rw[ha];rintro r w1 ⟨rfl,hb1⟩;obtain⟨hc1,hf1⟩:=aP hb1;have hz1:w.heap.size+1+1<w1.heap.size:=by have:=hb1.size;simp at this;omega
   go_wp2_with fail;refine(mR _ _ _ _ _).mono ?_;rw[hb];rintro r w2 ⟨rfl,hb2⟩;obtain⟨hc2,hf2⟩:=aP hb2;have hz2:w.heap.size+1+1<w2.heap.size:=by have:=hb2.size;omega
   go_wp2;refine bY (v:=.tuple #[.agg #[.int .i64 0,.int .i64 0,.int .i64 0,.int .i64 0],.bool false]) (by simp[results,Tryz.results145,go_sem, *]) rfl ⟨rfl,?_⟩;exact eD (aB (aB (aY w _ _ _) hb1) hb2) (by omega) _ _ _ _
  ·obtain⟨x1,x2,y1,y2,d1,d2,e1,e2⟩:=M.ok_iff.1 ha;obtain⟨x3,x4,y3,y4,d3,d4,e3,e4⟩:=M.ok_iff.1 hb;simp only at x1 x2 y1 y2 d1 d2 e1 e2 x3 x4 y3 y4 d3 d4 e3 e4;cases hs:M.ok ⟨x+x',y+y',d+d',e+e'⟩
   ·have r1:M.mul ⟨x,y,d,e⟩ ⟨x',y',d',e'⟩=(M.zero,false):=by simp[M.mul,M.sum,hs]
    rw[r1];simp only[M.zero];clear r1;go_enter Tryz.func145,Tryz.ntmps145;go_wp2_with fail;refine(mR _ _ _ _ _).mono ?_;rw[ha];rintro r w1 ⟨rfl,hb1⟩;obtain⟨hc1,hf1⟩:=aP hb1;have hz1:w.heap.size+1+1<w1.heap.size:=by have:=hb1.size;simp at this;omega
    have hz0:w.heap.size+1<w1.heap.size:=by omega
    have hzz:w.heap.size<w1.heap.size:=by omega
    go_wp2_with fail;refine(mR _ _ _ _ _).mono ?_;rw[hb];rintro r w2 ⟨rfl,hb2⟩;obtain⟨hc2,hf2⟩:=aP hb2;have hz2:w.heap.size+1+1<w2.heap.size:=by have:=hb2.size;omega
    go_wp2_with fail;refine(mR _ _ _ _ _).mono ?_;rw[hs];rintro r w3 ⟨rfl,hb3⟩;obtain⟨hc3,hf3⟩:=aP (aB ((bL w2.heap.size w2).alloc (Nat.le_refl _) _) hb3);have ht:∀i,w3.cell? ⟨w2.heap.size,i,none⟩=#[Value.int .i64 (x+x'),.int .i64 (y+y'),.int .i64 (d+d'),.int .i64 (e+e')][i]? :=fun i=>by rw[hb3.cell (p:=⟨w2.heap.size,i,none⟩) (by simp),World.cell?_alloc_at _ _ _ _ rfl]
    have hB:=aB ((aB (aB (aY w _ _ _) hb1) hb2).alloc (aB (aB (aY w _ _ _) hb1) hb2).size _) hb3;go_wp2;refine bY (v:=.tuple #[.agg #[.int .i64 0,.int .i64 0,.int .i64 0,.int .i64 0],.bool false]) (by simp[results,Tryz.results145,go_sem, *]) rfl ⟨rfl,?_⟩;exact eD hB (by omega) _ _ _ _
   ·have r1:M.mul ⟨x,y,d,e⟩ ⟨x',y',d',e'⟩=(⟨x+x',y+y',d+d',e+e'⟩,true):=by simp[M.mul,M.sum,hs,ha,hb]
    rw[r1];clear r1;go_enter Tryz.func145,Tryz.ntmps145;go_wp2_with fail;refine(mR _ _ _ _ _).mono ?_;rw[ha];rintro r w1 ⟨rfl,hb1⟩;obtain⟨hc1,hf1⟩:=aP hb1;have hz1:w.heap.size+1+1<w1.heap.size:=by have:=hb1.size;simp at this;omega
    have hz0:w.heap.size+1<w1.heap.size:=by omega
    have hzz:w.heap.size<w1.heap.size:=by omega
    go_wp2_with fail;refine(mR _ _ _ _ _).mono ?_;rw[hb];rintro r w2 ⟨rfl,hb2⟩;obtain⟨hc2,hf2⟩:=aP hb2;have hz2:w.heap.size+1+1<w2.heap.size:=by have:=hb2.size;omega
    go_wp2_with fail;refine(mR _ _ _ _ _).mono ?_;rw[hs];rintro r w3 ⟨rfl,hb3⟩;obtain⟨hc3,hf3⟩:=aP (aB ((bL w2.heap.size w2).alloc (Nat.le_refl _) _) hb3);have ht:∀i,w3.cell? ⟨w2.heap.size,i,none⟩=#[Value.int .i64 (x+x'),.int .i64 (y+y'),.int .i64 (d+d'),.int .i64 (e+e')][i]? :=fun i=>by rw[hb3.cell (p:=⟨w2.heap.size,i,none⟩) (by simp),World.cell?_alloc_at _ _ _ _ rfl]
    have hB:=aB ((aB (aB (aY w _ _ _) hb1) hb2).alloc (aB (aB (aY w _ _ _) hb1) hb2).size _) hb3;go_wp2;refine bY (v:=.tuple #[.agg #[.int .i64 (x+x'),.int .i64 (y+y'),.int .i64 (d+d'),.int .i64 (e+e')],.bool true]) (by simp[results,Tryz.results145,go_sem, *]) rfl ⟨rfl,?_⟩;exact eD hB (by omega) _ _ _ _
end Go.Proofs.YtdidlcjhodejjaaGreat
