/-
  The plain numbers of chapter 1, with no program in sight: the residues by 101, their powers and their falling products, and what is true of them.
-/
import Derived.WalkKit
import Derived.Test.YtelkehjdfcoeiaaGreatRows
import Derived.Below
set_option maxHeartbeats 400000
set_option maxRecDepth 100000
namespace Go.Proofs.YtelkehjdfcoeiaaGreat
abbrev cQ:=@World.block_lt_of_cell?
abbrev bQ:=@Go.RowKit.Below.refl
abbrev cV:=@bodyPost_ret
abbrev iZ:=@Nat.lt_of_lt_of_le
abbrev nC:=@World.cell?_of_block
abbrev gW:=@Nat.le_trans
abbrev EZ:=@Nat.not_lt_zero
abbrev BH:=@World.cell?_alloc_lt
theorem eD:(∀{α:Type}(xs:List α)(i:Nat)(h:i<xs.toArray.size),xs.toArray[i]=xs[i]'(by simpa using h))∧(∀{α:Type}(a:α)(l:List α)(i:Nat)(h:i+1<(a::l).length),(a::l)[i+1]=l[i]'(by simpa using h))∧(∀{α:Type}(a:α)(l:List α)(h:0<(a::l).length),(a::l)[0]=a)∧(∀{α:Type}(l:List α)(i:Nat)(a:α),l.toArray.setIfInBounds i a=(l.set i a).toArray)∧(∀{α:Type}(x:α)(xs:List α)(a:α),(x::xs).set 0 a=a::xs)∧(∀{α:Type}(x:α)(xs:List α)(n:Nat)(a:α),(x::xs).set (n+1) a=x::xs.set n a):=⟨fun _ _ _=>List.getElem_toArray ..,fun _ _ _ _=>List.getElem_cons_succ ..,fun _ _ _=>List.getElem_cons_zero ..,fun _ _ _=>List.setIfInBounds_toArray ..,fun _ _ _=>List.set_cons_zero ..,fun _ _ _ _=>List.set_cons_succ ..⟩
def nT (a b:Int):Int:=if 0≤a∧a≤100∧0≤b∧b≤100 then a*b%101 else 0
def pw (a:Int):Nat→Int
 |0=>1
 |n+1=>pw a n*a%101
def TM (a n:Int):Int:=if 0≤a∧a≤100∧0≤n∧n≤1000 then pw a n.toNat else 0
def iv (a:Int):Int:=pw a 99
def lI (a:Int):Int:=if 0≤a∧a≤100 then iv a else 0
def fl (n:Int):Nat→Int
 |0=>1
 |i+1=>fl n i*((n-i)%101)%101
def iG (n k:Int):Int:=if 0≤n∧n≤60∧0≤k∧k≤60 then fl n k.toNat else 0
def dQ (n k:Int):Int:=if 0≤n∧n≤60∧0≤k∧k≤n then fl n k.toNat*iv (fl k k.toNat)%101 else 0
def OJ (a b:Int):Int:=if 0≤a∧a≤100∧0≤b∧b≤100 then a*iv b%101 else 0
theorem WQ (a:Int) (n:Nat):0≤pw a n∧pw a n≤100:=by
 cases n with
 |zero=>simp[pw]
 |succ n=>simp only[pw];omega
theorem yD (a:Int):0≤iv a∧iv a≤100:=WQ a 99
theorem xW (n:Int) (i:Nat):0≤fl n i∧fl n i≤100:=by
 cases i with
 |zero=>simp[fl]
 |succ i=>simp only[fl];omega
theorem mS {a b:Int} (ha:0≤a) (ha':a≤100) (hb:0≤b) (hb':b≤100):0≤a*b∧a*b≤10000:=by
 refine⟨Int.mul_nonneg ha hb,?_⟩
 calc a*b≤100*100:=Int.mul_le_mul ha' hb' hb (by omega)
  _=10000:=by omega
theorem Bh (a:Int) (n:Nat):pw a n=a ^ n%101:=by
 induction n with
 |zero=>simp[pw]
 |succ n ih=>simp only[pw,ih,Int.pow_succ];rw[Int.mul_emod,Int.emod_emod_of_dvd _ (Int.dvd_refl 101),←Int.mul_emod]
theorem IP (a:Int) (n:Nat):(a%101) ^ n%101=a ^ n%101:=by
 induction n with
 |zero=>simp
 |succ n ih=>
  rw[Int.pow_succ,Int.pow_succ,Int.mul_emod,ih,Int.emod_emod_of_dvd _ (Int.dvd_refl 101),←Int.mul_emod]
def nJ (a:Int) (n:Nat) (b m x:Int):Prop:=x*b ^ m.toNat%101=a ^ n%101
theorem DT (a:Int) (n:Int):nJ a n.toNat a n 1:=by unfold nJ;rw[Int.one_mul]
theorem MD {a:Int} {n:Nat} {b x:Int} (h:nJ a n b 0 x) (h0:0≤x) (h1:x≤100):x=pw a n:=by unfold nJ at h;rw[Bh,←h];simp;omega
theorem RV (b:Int) (m:Nat):(b*b) ^ m=b ^ (2*m):=by rw[Int.pow_mul,Int.pow_succ,Int.pow_succ,Int.pow_zero,Int.one_mul]
theorem GG {a:Int} {n:Nat} {b m x:Int} (h:nJ a n b m x) (hm:0<m) (he:m%2=0):nJ a n (b*b%101) (m / 2) x:=by
 unfold nJ at *;rw[←h];have e:m.toNat=2*(m / 2).toNat:=by omega
 rw[e,←RV,Int.mul_emod,IP,←Int.mul_emod]
theorem ME {a:Int} {n:Nat} {b m x:Int} (h:nJ a n b m x) (hm:0<m) (he:m%2=1):nJ a n (b*b%101) (m / 2) (x*b%101):=by
 unfold nJ at *;rw[←h];have e:m.toNat=2*(m / 2).toNat+1:=by omega
 rw[e,Int.pow_succ,←RV,Int.mul_emod,IP,Int.emod_emod_of_dvd _ (Int.dvd_refl 101),←Int.mul_emod];congr 1;rw[Int.mul_assoc,Int.mul_comm b]
theorem TT (n:Int) (j i:Nat) (hn:n=j) (h:j<i):fl n i=0:=by
 induction i with
 |zero=>omega
 |succ i ih=>
  simp only[fl];by_cases e:j=i
  ·subst e;subst hn;have:((j:Int)-j)%101=0:=by omega
   rw[this];simp
  ·rw[ih (by omega)];simp
theorem TS (n:Int) (j:Nat) (h:(j:Int)≤n) (hn:n≤60):fl n (j+1)=fl n j*(n-j)%101:=by
 simp only[fl];have:(n-(j:Int))%101=n-j:=by omega
 rw[this]
theorem jN {k:IntKind} {a b:Int} (h:a=b):Ending.returned (.int k a)= .returned (.int k b):=by rw[h]
theorem gY {a b:Int} (h1:0≤a) (h2:a≤100) (h3:0≤b) (h4:b≤100):nT a b=a*b%101:=if_pos ⟨h1,h2,h3,h4⟩
theorem IB {a b:Int} (h1:0≤a) (h2:a≤100) (h3:0≤b) (h4:b≤100):OJ a b=a*iv b%101:=if_pos ⟨h1,h2,h3,h4⟩
theorem qY {a:Int} (h1:0≤a) (h2:a≤100):lI a=iv a:=if_pos ⟨h1,h2⟩
theorem ID {a n:Int} (h1:0≤a) (h2:a≤100) (h3:0≤n) (h4:n≤1000):TM a n=pw a n.toNat:=if_pos ⟨h1,h2,h3,h4⟩
theorem qW {n k:Int} (h1:0≤n) (h2:n≤60) (h3:0≤k) (h4:k≤60):iG n k=fl n k.toNat:=if_pos ⟨h1,h2,h3,h4⟩
theorem vD {n k:Int} (h1:0≤n) (h2:n≤60) (h3:0≤k) (h4:k≤n):dQ n k=fl n k.toNat*iv (fl k k.toNat)%101:=if_pos ⟨h1,h2,h3,h4⟩
theorem CK {a b:Int} (h:¬(0≤a∧a≤100∧0≤b∧b≤100)):nT a b=0:=if_neg h
theorem OK {a b:Int} (h:¬(0≤a∧a≤100∧0≤b∧b≤100)):OJ a b=0:=if_neg h
theorem CI {a:Int} (h:¬(0≤a∧a≤100)):lI a=0:=if_neg h
theorem CL {a n:Int} (h:¬(0≤a∧a≤100∧0≤n∧n≤1000)):TM a n=0:=if_neg h
theorem xV {n k:Int} (h:¬(0≤n∧n≤60∧0≤k∧k≤60)):iG n k=0:=if_neg h
theorem tS {n k:Int} (h:¬(0≤n∧n≤60∧0≤k∧k≤n)):dQ n k=0:=if_neg h
theorem uF {a b:Int} (h:(a==b)=false):a≠b:=by simpa using h
theorem TN (a:Int):TM a 99=lI a:=by
 by_cases h:0≤a∧a≤100
 ·rw[ID h.1 h.2 (by omega) (by omega),qY h.1 h.2];rfl
 ·rw[CL (by omega),CI h]
theorem CG {n k:Int} (h1:0≤n) (h2:n≤60) (h3:0≤k) (h4:k≤n):nT (iG n k) (lI (iG k k))=dQ n k:=by
 have b1:=xW n k.toNat;have b2:=xW k k.toNat
 have b3:=yD (fl k k.toNat);rw[vD h1 h2 h3 h4,qW h1 h2 h3 (by omega),qW h3 (by omega) h3 (by omega),qY b2.1 b2.2,gY b1.1 b1.2 b3.1 b3.2]
theorem qX (a:Int):0≤lI a∧lI a≤100:=by have:=yD a;unfold lI;split<;>omega
theorem yN:∀a:Fin 101,∀b:Fin 101,a.val*b.val%101=0→a.val=0∨b.val=0:=by decide+kernel
theorem AB {a b:Int} (ha:0≤a∧a≤100) (hb:0≤b∧b≤100) (h:a*b%101=0):a=0∨b=0:=by
 obtain⟨x,rfl⟩:=Int.eq_ofNat_of_zero_le ha.1;obtain⟨y,rfl⟩:=Int.eq_ofNat_of_zero_le hb.1;have:=yN ⟨x,by omega⟩ ⟨y,by omega⟩ (by simp only;omega)
 simp only at this;omega
theorem IC {a b:Int} (ha:0≤a∧a≤100) (hb:0≤b∧b≤100) (h1:a≠0) (h2:b≠0):nT a b≠0:=by
 rw[gY ha.1 ha.2 hb.1 hb.2];intro h;have:=AB ha hb h
 omega
theorem TW:∀a:Fin 101,a.val≠0→pw (a.val:Int) 99*(a.val:Int)%101=1:=by decide+kernel
theorem XQ {b:Int} (hb:0≤b∧b≤100) (h0:b≠0):iv b*b%101=1:=by obtain⟨x,rfl⟩:=Int.eq_ofNat_of_zero_le hb.1;exact TW ⟨x,by omega⟩ (by simp only;omega)
theorem vE {b:Int} (hb:0≤b∧b≤100) (h0:b≠0):nT (lI b) b=1:=by rw[qY hb.1 hb.2,gY (yD b).1 (yD b).2 hb.1 hb.2,XQ hb h0]
open Go.RowKit
set_option linter.unusedVariables false
theorem pX (a:Int) (w:World) (h1:0≤a) (h2:a≤100):Calls Tryz.prog 54 #[.int .i64 a] w fun e w'=>e= .returned (.bool true)∧w'=w:=by have d1:decide (a<101)=true:=decide_eq_true (by omega);go_enter Tryz.func54,Tryz.ntmps54;go_wp2;go_ret;exact⟨rfl,rfl⟩
theorem mV (a:Int) (w:World) (h:a<0∨100<a):Calls Tryz.prog 54 #[.int .i64 a] w fun e w'=>e= .returned (.bool false)∧w'=w:=by
 rcases h with h|h
 ·go_enter Tryz.func54,Tryz.ntmps54;go_wp2;go_ret;exact⟨rfl,rfl⟩
 ·have d1:decide (a<101)=false:=decide_eq_false (by omega);go_enter Tryz.func54,Tryz.ntmps54;go_wp2;go_ret;exact⟨rfl,rfl⟩
theorem cO (n l h:Int) (w:World) (h1:l≤n) (h2:n≤h):Calls Tryz.prog 30 #[.int .i64 n,.int .i64 l,.int .i64 h] w fun e w'=>e= .returned (.bool true)∧w'=w:=by have d1:decide (n≤h)=true:=decide_eq_true h2;go_enter Tryz.func30,Tryz.ntmps30;go_wp2;go_ret;exact⟨rfl,rfl⟩
theorem dC (n l h:Int) (w:World) (hh:n<l∨(l≤n∧h<n)):Calls Tryz.prog 30 #[.int .i64 n,.int .i64 l,.int .i64 h] w fun e w'=>e= .returned (.bool false)∧w'=w:=by
 rcases hh with h1|⟨h1,h2⟩
 ·go_enter Tryz.func30,Tryz.ntmps30;go_wp2;go_ret;exact⟨rfl,rfl⟩
 ·have d1:decide (n≤h)=false:=decide_eq_false (by omega);go_enter Tryz.func30,Tryz.ntmps30;go_wp2;go_ret;exact⟨rfl,rfl⟩
theorem AE (a:Int) (w:World) (h1:0≤a) (h2:a≤100):Calls Tryz.prog 185 #[.int .i64 a] w fun e w'=>e= .returned (.bool true)∧w'=w:=by go_enter Tryz.func185,Tryz.ntmps185;go_wp2_with (first|(go_at_call 30;first|(refine(cO _ _ _ _ (by omega) (by omega)).mono ?_;rintro e w' ⟨rfl,rfl⟩)|(refine(dC _ _ _ _ (by omega)).mono ?_;rintro e w' ⟨rfl,rfl⟩)));go_ret;exact⟨rfl,rfl⟩
theorem uN (a:Int) (w:World) (h:a<0∨100<a):Calls Tryz.prog 185 #[.int .i64 a] w fun e w'=>e= .returned (.bool false)∧w'=w:=by
 rcases h with h|h
 ·go_enter Tryz.func185,Tryz.ntmps185;go_wp2_with (first|(go_at_call 30;first|(refine(cO _ _ _ _ (by omega) (by omega)).mono ?_;rintro e w' ⟨rfl,rfl⟩)|(refine(dC _ _ _ _ (by omega)).mono ?_;rintro e w' ⟨rfl,rfl⟩)));go_ret;exact⟨rfl,rfl⟩
 ·go_enter Tryz.func185,Tryz.ntmps185;go_wp2_with (first|(go_at_call 30;first|(refine(cO _ _ _ _ (by omega) (by omega)).mono ?_;rintro e w' ⟨rfl,rfl⟩)|(refine(dC _ _ _ _ (by omega)).mono ?_;rintro e w' ⟨rfl,rfl⟩)));go_ret;exact⟨rfl,rfl⟩
theorem oF (a b:Int) (w:World) (h1:0≤a) (h2:a≤100) (h3:0≤b) (h4:b≤100):Calls Tryz.prog 94 #[.int .i64 a,.int .i64 b] w fun e w'=>e= .returned (.int .i64 (a*b%101))∧w'=w:=by obtain⟨hm1,hm2⟩:=mS h1 h2 h3 h4;go_enter Tryz.func94,Tryz.ntmps94;go_wp2;go_ret;exact⟨rfl,rfl⟩
theorem At (a b:Int) (w:World) (h1:0≤a) (h2:a≤100) (h3:0≤b) (h4:b≤100):Calls Tryz.prog 173 #[.int .i64 a,.int .i64 b] w fun e w'=>e= .returned (.int .i64 ((a+b)%101))∧w'=w:=by go_enter Tryz.func173,Tryz.ntmps173;go_wp2;go_ret;exact⟨rfl,rfl⟩
theorem Ct (a b:Int) (w:World):Calls Tryz.prog 55 #[.int .i64 a,.int .i64 b] w fun e w'=>e= .returned (.int .i64 (nT a b))∧w'=w:=by
 by_cases h:0≤a∧a≤100∧0≤b∧b≤100
 ·rw[gY h.1 h.2.1 h.2.2.1 h.2.2.2];obtain⟨h1,h2,h3,h4⟩:=h;obtain⟨hm1,hm2⟩:=mS h1 h2 h3 h4;go_enter Tryz.func55,Tryz.ntmps55;go_wp2_with (first|(go_at_call 54;first|(refine(pX _ _ (by omega) (by omega)).mono ?_;rintro e w' ⟨rfl,rfl⟩)|(refine(mV _ _ (by omega)).mono ?_;rintro e w' ⟨rfl,rfl⟩))|(go_at_call 94;refine(oF _ _ _ (by omega) (by omega) (by omega) (by omega)).mono ?_;rintro e w' ⟨rfl,rfl⟩));go_ret;exact⟨rfl,rfl⟩
 ·rw[CK h];have h':a<0∨100<a∨(0≤a∧a≤100∧b<0)∨(0≤a∧a≤100∧100<b):=by omega
  clear h;rcases h' with h|h|⟨h1,h2,h3⟩|⟨h1,h2,h3⟩
  all_goals
   go_enter Tryz.func55,Tryz.ntmps55;go_wp2_with (first|(go_at_call 54;first|(refine(pX _ _ (by omega) (by omega)).mono ?_;rintro e w' ⟨rfl,rfl⟩)|(refine(mV _ _ (by omega)).mono ?_;rintro e w' ⟨rfl,rfl⟩))|(go_at_call 94;refine(oF _ _ _ (by omega) (by omega) (by omega) (by omega)).mono ?_;rintro e w' ⟨rfl,rfl⟩));go_ret;exact⟨rfl,rfl⟩
theorem Cu (a b:Int) (w:World):Calls Tryz.prog 204 #[.int .i64 a,.int .i64 b] w fun e w'=>e= .returned (.int .i64 (nT a b))∧w'=w:=by
 by_cases h:0≤a∧a≤100∧0≤b∧b≤100
 ·rw[gY h.1 h.2.1 h.2.2.1 h.2.2.2];obtain⟨h1,h2,h3,h4⟩:=h;obtain⟨hm1,hm2⟩:=mS h1 h2 h3 h4;go_enter Tryz.func204,Tryz.ntmps204;go_wp2_with (first|(go_at_call 185;first|(refine(AE _ _ (by omega) (by omega)).mono ?_;rintro e w' ⟨rfl,rfl⟩)|(refine(uN _ _ (by omega)).mono ?_;rintro e w' ⟨rfl,rfl⟩)));go_ret;exact⟨rfl,rfl⟩
 ·rw[CK h];have h':a<0∨100<a∨(0≤a∧a≤100∧b<0)∨(0≤a∧a≤100∧100<b):=by omega
  clear h;rcases h' with h|h|⟨h1,h2,h3⟩|⟨h1,h2,h3⟩
  all_goals
   go_enter Tryz.func204,Tryz.ntmps204;go_wp2_with (first|(go_at_call 185;first|(refine(AE _ _ (by omega) (by omega)).mono ?_;rintro e w' ⟨rfl,rfl⟩)|(refine(uN _ _ (by omega)).mono ?_;rintro e w' ⟨rfl,rfl⟩)));go_ret;exact⟨rfl,rfl⟩
theorem WP (a n:Int) (w:World) (h1:0≤a) (h2:a≤100) (h3:0≤n) (h4:n≤1000):Calls Tryz.prog 184 #[.int .i64 a,.int .i64 n] w fun e w'=>e= .returned (.int .i64 (pw a n.toNat))∧w'=w:=by
 go_enter Tryz.func184,Tryz.ntmps184;go_wp2
 go_loop [0,1,5] (fun a' n' r=>∃b m x:Int,a'= .int .i64 b∧n'= .int .i64 m∧r= .int .i64 x∧0≤b∧b≤100∧0≤m∧m≤1000∧0≤x∧x≤100∧nJ a n.toNat b m x) (fun _ n' _=>(intOf n').toNat)
 case atStart=>exact⟨a,n,1,rfl,rfl,rfl,h1,h2,h3,h4,by omega,by omega,DT a n⟩
 case round=>
  obtain⟨b,m,x,rfl,rfl,rfl,b1,b2,m1,m2,x1,x2,hI⟩:=hrel;by_cases hm:0<m
  ·obtain⟨s1,s2⟩:=mS b1 b2 b1 b2;by_cases ho:m%2=1
   ·obtain⟨t1,t2⟩:=mS x1 x2 b1 b2;have hI':=ME hI hm ho
    clear hI;have hb:(m%2==1)=true:=by simp[ho]
    clear ho;go_wp2;go_round;case rel=>exact⟨_,_,_,rfl,rfl,rfl,by omega,by omega,by omega,by omega,by omega,by omega,hI'⟩
    case measure=>simp[intOf];omega
   ·have hI':=GG hI hm (by omega);clear hI;have hb:(m%2==1)=false:=by simp[ho]
    clear ho;go_wp2;go_round;case rel=>exact⟨_,_,_,rfl,rfl,rfl,by omega,by omega,by omega,by omega,by omega,by omega,hI'⟩
    case measure=>simp[intOf];omega
  ·have e:m=0:=by omega
   subst e;go_wp2;go_ret;exact⟨jN (MD hI x1 x2),rfl⟩
theorem Cw (a n:Int) (w:World):Calls Tryz.prog 164 #[.int .i64 a,.int .i64 n] w fun e w'=>e= .returned (.int .i64 (TM a n))∧w'=w:=by
 by_cases h:0≤a∧a≤100∧0≤n∧n≤1000
 ·rw[ID h.1 h.2.1 h.2.2.1 h.2.2.2];obtain⟨h1,h2,h3,h4⟩:=h;go_enter Tryz.func164,Tryz.ntmps164;go_wp2_with (first|(go_at_call 185;first|(refine(AE _ _ (by omega) (by omega)).mono ?_;rintro e w' ⟨rfl,rfl⟩)|(refine(uN _ _ (by omega)).mono ?_;rintro e w' ⟨rfl,rfl⟩))|(go_at_call 30;first|(refine(cO _ _ _ _ (by omega) (by omega)).mono ?_;rintro e w' ⟨rfl,rfl⟩)|(refine(dC _ _ _ _ (by omega)).mono ?_;rintro e w' ⟨rfl,rfl⟩)))
  go_loop [5,6] (fun x i=>∃k:Nat,(k:Int)≤n∧i= .int .i64 k∧x= .int .i64 (pw a k)) (fun _ i=>(n-intOf i).toNat)
  case atStart=>exact⟨0,by omega,rfl,rfl⟩
  case round=>
   obtain⟨k,hk,rfl,rfl⟩:=hrel;obtain⟨p1,p2⟩:=WQ a k;by_cases hlt:(k:Int)<n
   ·obtain⟨t1,t2⟩:=mS p1 p2 h1 h2;go_wp2;go_round;case rel=>exact⟨k+1,by omega,by go_num,rfl⟩
    case measure=>simp[intOf];omega
   ·go_wp2;go_ret;exact⟨jN (by rw[show n.toNat=k by omega]),rfl⟩
 ·rw[CL h];have h':a<0∨100<a∨(0≤a∧a≤100∧n<0)∨(0≤a∧a≤100∧1000<n):=by omega
  clear h;rcases h' with h|h|⟨h1,h2,h3⟩|⟨h1,h2,h3⟩
  all_goals
   go_enter Tryz.func164,Tryz.ntmps164;go_wp2_with (first|(go_at_call 185;first|(refine(AE _ _ (by omega) (by omega)).mono ?_;rintro e w' ⟨rfl,rfl⟩)|(refine(uN _ _ (by omega)).mono ?_;rintro e w' ⟨rfl,rfl⟩))|(go_at_call 30;first|(refine(cO _ _ _ _ (by omega) (by omega)).mono ?_;rintro e w' ⟨rfl,rfl⟩)|(refine(dC _ _ _ _ (by omega)).mono ?_;rintro e w' ⟨rfl,rfl⟩)));go_ret;exact⟨rfl,rfl⟩
theorem rC (a:Int) (w:World) (h1:0≤a) (h2:a≤100):Calls Tryz.prog 163 #[.int .i64 a] w fun e w'=>e= .returned (.int .i64 (iv a))∧w'=w:=by go_enter Tryz.func163,Tryz.ntmps163;go_wp2_with (first|(go_at_call 184;refine(WP _ _ _ (by omega) (by omega) (by omega) (by omega)).mono ?_;rintro e w' ⟨rfl,rfl⟩));go_ret;exact⟨rfl,rfl⟩
theorem Cr (a:Int) (w:World):Calls Tryz.prog 132 #[.int .i64 a] w fun e w'=>e= .returned (.int .i64 (lI a))∧w'=w:=by
 by_cases h:0≤a∧a≤100
 ·rw[qY h.1 h.2];obtain⟨h1,h2⟩:=h;go_enter Tryz.func132,Tryz.ntmps132;go_wp2_with (first|(go_at_call 54;first|(refine(pX _ _ (by omega) (by omega)).mono ?_;rintro e w' ⟨rfl,rfl⟩)|(refine(mV _ _ (by omega)).mono ?_;rintro e w' ⟨rfl,rfl⟩))|(go_at_call 163;refine(rC _ _ (by omega) (by omega)).mono ?_;rintro e w' ⟨rfl,rfl⟩));go_ret;exact⟨rfl,rfl⟩
 ·rw[CI h];have h':a<0∨100<a:=by omega
  clear h;rcases h' with h|h
  all_goals
   go_enter Tryz.func132,Tryz.ntmps132;go_wp2_with (first|(go_at_call 54;first|(refine(pX _ _ (by omega) (by omega)).mono ?_;rintro e w' ⟨rfl,rfl⟩)|(refine(mV _ _ (by omega)).mono ?_;rintro e w' ⟨rfl,rfl⟩))|(go_at_call 163;refine(rC _ _ (by omega) (by omega)).mono ?_;rintro e w' ⟨rfl,rfl⟩));go_ret;exact⟨rfl,rfl⟩
theorem ZZ (a:Int) (w:World):Calls Tryz.prog 134 #[.int .i64 a] w fun e w'=>e= .returned (.int .i64 (lI a))∧w'=w:=by go_enter Tryz.func134,Tryz.ntmps134;go_wp2_with (first|(go_at_call 164;refine(Cw _ _ _).mono ?_;rintro e w' ⟨rfl,rfl⟩));go_ret;exact⟨jN (TN a),rfl⟩
theorem Co (a b:Int) (w:World):Calls Tryz.prog 169 #[.int .i64 a,.int .i64 b] w fun e w'=>e= .returned (.int .i64 (OJ a b))∧w'=w:=by
 by_cases h:0≤a∧a≤100∧0≤b∧b≤100
 ·rw[IB h.1 h.2.1 h.2.2.1 h.2.2.2];obtain⟨h1,h2,h3,h4⟩:=h;obtain⟨i1,i2⟩:=yD b;go_enter Tryz.func169,Tryz.ntmps169;go_wp2_with (first|(go_at_call 54;first|(refine(pX _ _ (by omega) (by omega)).mono ?_;rintro e w' ⟨rfl,rfl⟩)|(refine(mV _ _ (by omega)).mono ?_;rintro e w' ⟨rfl,rfl⟩))|(go_at_call 163;refine(rC _ _ (by omega) (by omega)).mono ?_;rintro e w' ⟨rfl,rfl⟩)|(go_at_call 94;refine(oF _ _ _ (by omega) (by omega) (by omega) (by omega)).mono ?_;rintro e w' ⟨rfl,rfl⟩));go_ret;exact⟨rfl,rfl⟩
 ·rw[OK h];have h':a<0∨100<a∨(0≤a∧a≤100∧b<0)∨(0≤a∧a≤100∧100<b):=by omega
  clear h;rcases h' with h|h|⟨h1,h2,h3⟩|⟨h1,h2,h3⟩
  all_goals
   go_enter Tryz.func169,Tryz.ntmps169;go_wp2_with (first|(go_at_call 54;first|(refine(pX _ _ (by omega) (by omega)).mono ?_;rintro e w' ⟨rfl,rfl⟩)|(refine(mV _ _ (by omega)).mono ?_;rintro e w' ⟨rfl,rfl⟩))|(go_at_call 163;refine(rC _ _ (by omega) (by omega)).mono ?_;rintro e w' ⟨rfl,rfl⟩)|(go_at_call 94;refine(oF _ _ _ (by omega) (by omega) (by omega) (by omega)).mono ?_;rintro e w' ⟨rfl,rfl⟩));go_ret;exact⟨rfl,rfl⟩
theorem oJ (a:Int) (w:World) (h1:0≤a) (h2:a≤60):Calls Tryz.prog 186 #[.int .i64 a] w fun e w'=>e= .returned (.bool true)∧w'=w:=by have d1:decide (a≤60)=true:=decide_eq_true h2;go_enter Tryz.func186,Tryz.ntmps186;go_wp2;go_ret;exact⟨rfl,rfl⟩
theorem mJ (a:Int) (w:World) (h:a<0∨60<a):Calls Tryz.prog 186 #[.int .i64 a] w fun e w'=>e= .returned (.bool false)∧w'=w:=by
 rcases h with h|h
 ·go_enter Tryz.func186,Tryz.ntmps186;go_wp2;go_ret;exact⟨rfl,rfl⟩
 ·have d1:decide (a≤60)=false:=decide_eq_false (by omega);go_enter Tryz.func186,Tryz.ntmps186;go_wp2;go_ret;exact⟨rfl,rfl⟩
theorem TP (n k:Int) (w:World) (h1:0≤n) (h2:n≤60) (h3:0≤k) (h4:k≤60):Calls Tryz.prog 187 #[.int .i64 n,.int .i64 k] w fun e w'=>e= .returned (.int .i64 (fl n k.toNat))∧w'=w:=by
 go_enter Tryz.func187,Tryz.ntmps187;go_wp2
 go_loop [0,5,7] (fun a' r i=>∃j:Nat,(j:Int)≤k∧(j:Int)≤n∧a'= .int .i64 (n-j)∧r= .int .i64 (fl n j)∧i= .int .i64 j) (fun _ _ i=>(k-intOf i).toNat)
 case atStart=>exact⟨0,by omega,by omega,by simp,rfl,rfl⟩
 case round=>
  obtain⟨j,hj,hjn,rfl,rfl,rfl⟩:=hrel;obtain⟨p1,p2⟩:=xW n j;by_cases hlt:(j:Int)<k
  ·by_cases hz:n-(j:Int)=0
   ·have hb:(n-(j:Int)==0)=true:=by simp[hz]
    have hf:Hid (fl n k.toNat=0):=TT n j k.toNat (by omega) (by omega);clear hz;go_wp2;go_ret;exact⟨jN hf.out.symm,rfl⟩
   ·have hb:(n-(j:Int)==0)=false:=by simp[hz]
    clear hz;have hp:0<n-(j:Int):=by have:=uF hb;omega
    obtain⟨t1,t2⟩:=mS p1 p2 (show(0:Int)≤n-j by omega) (show n-(j:Int)≤100 by omega);have hs:Hid (fl n (j+1)=fl n j*(n-j)%101):=TS n j hjn h2
    go_wp2;go_round;case rel=>exact⟨j+1,by omega,by omega,congrArg (Value.int .i64) (by omega),by rw[hs.out];rfl,by go_num⟩
    case measure=>simp[intOf];omega
  ·go_wp2;go_ret;exact⟨jN (by rw[show k.toNat=j by omega]),rfl⟩
theorem WN (n k:Int) (w:World):Calls Tryz.prog 192 #[.int .i64 n,.int .i64 k] w fun e w'=>e= .returned (.int .i64 (iG n k))∧w'=w:=by
 by_cases h:0≤n∧n≤60∧0≤k∧k≤60
 ·rw[qW h.1 h.2.1 h.2.2.1 h.2.2.2];obtain⟨h1,h2,h3,h4⟩:=h;go_enter Tryz.func192,Tryz.ntmps192;go_wp2_with (first|(go_at_call 30;first|(refine(cO _ _ _ _ (by omega) (by omega)).mono ?_;rintro e w' ⟨rfl,rfl⟩)|(refine(dC _ _ _ _ (by omega)).mono ?_;rintro e w' ⟨rfl,rfl⟩)))
  go_loop [5,6] (fun x i=>∃j:Nat,(j:Int)≤k∧i= .int .i64 j∧x= .int .i64 (fl n j)) (fun _ i=>(k-intOf i).toNat)
  case atStart=>exact⟨0,by omega,rfl,rfl⟩
  case round=>
   obtain⟨j,hj,rfl,rfl⟩:=hrel;obtain⟨p1,p2⟩:=xW n j;by_cases hlt:(j:Int)<k
   ·obtain⟨t1,t2⟩:=mS p1 p2 (show(0:Int)≤(n-j)%101 by omega) (show(n-(j:Int))%101≤100 by omega);go_wp2;go_round;case rel=>exact⟨j+1,by omega,by go_num,rfl⟩
    case measure=>simp[intOf];omega
   ·go_wp2;go_ret;exact⟨jN (by rw[show k.toNat=j by omega]),rfl⟩
 ·rw[xV h];have h':n<0∨60<n∨(0≤n∧n≤60∧k<0)∨(0≤n∧n≤60∧60<k):=by omega
  clear h;rcases h' with h|h|⟨h1,h2,h3⟩|⟨h1,h2,h3⟩
  all_goals
   go_enter Tryz.func192,Tryz.ntmps192;go_wp2_with (first|(go_at_call 30;first|(refine(cO _ _ _ _ (by omega) (by omega)).mono ?_;rintro e w' ⟨rfl,rfl⟩)|(refine(dC _ _ _ _ (by omega)).mono ?_;rintro e w' ⟨rfl,rfl⟩)));go_ret;exact⟨rfl,rfl⟩
theorem ZT (n k:Int) (w:World):Calls Tryz.prog 176 #[.int .i64 n,.int .i64 k] w fun e w'=>e= .returned (.int .i64 (iG n k))∧w'=w:=by
 by_cases h:0≤n∧n≤60∧0≤k∧k≤60
 ·rw[qW h.1 h.2.1 h.2.2.1 h.2.2.2];obtain⟨h1,h2,h3,h4⟩:=h;go_enter Tryz.func176,Tryz.ntmps176;go_wp2_with (first|(go_at_call 186;first|(refine(oJ _ _ (by omega) (by omega)).mono ?_;rintro e w' ⟨rfl,rfl⟩)|(refine(mJ _ _ (by omega)).mono ?_;rintro e w' ⟨rfl,rfl⟩))|(go_at_call 187;refine(TP _ _ _ (by omega) (by omega) (by omega) (by omega)).mono ?_;rintro e w' ⟨rfl,rfl⟩));go_ret;exact⟨rfl,rfl⟩
 ·rw[xV h];have h':n<0∨60<n∨(0≤n∧n≤60∧k<0)∨(0≤n∧n≤60∧60<k):=by omega
  clear h;rcases h' with h|h|⟨h1,h2,h3⟩|⟨h1,h2,h3⟩
  all_goals
   go_enter Tryz.func176,Tryz.ntmps176;go_wp2_with (first|(go_at_call 186;first|(refine(oJ _ _ (by omega) (by omega)).mono ?_;rintro e w' ⟨rfl,rfl⟩)|(refine(mJ _ _ (by omega)).mono ?_;rintro e w' ⟨rfl,rfl⟩))|(go_at_call 187;refine(TP _ _ _ (by omega) (by omega) (by omega) (by omega)).mono ?_;rintro e w' ⟨rfl,rfl⟩));go_ret;exact⟨rfl,rfl⟩
theorem TF (n k:Int) (w:World):Calls Tryz.prog 175 #[.int .i64 n,.int .i64 k] w fun e w'=>e= .returned (.int .i64 (dQ n k))∧w'=w:=by
 by_cases h:0≤n∧n≤60∧0≤k∧k≤n
 ·rw[vD h.1 h.2.1 h.2.2.1 h.2.2.2];obtain⟨h1,h2,h3,h4⟩:=h;obtain⟨p1,p2⟩:=xW n k.toNat;obtain⟨q1,q2⟩:=xW k k.toNat;obtain⟨r1,r2⟩:=yD (fl k k.toNat);have d1:decide (n<k)=false:=decide_eq_false (by omega)
  go_enter Tryz.func175,Tryz.ntmps175;go_wp2_with (first|(go_at_call 186;first|(refine(oJ _ _ (by omega) (by omega)).mono ?_;rintro e w' ⟨rfl,rfl⟩)|(refine(mJ _ _ (by omega)).mono ?_;rintro e w' ⟨rfl,rfl⟩))|(go_at_call 187;refine(TP _ _ _ (by omega) (by omega) (by omega) (by omega)).mono ?_;rintro e w' ⟨rfl,rfl⟩)|(go_at_call 163;refine(rC _ _ (by omega) (by omega)).mono ?_;rintro e w' ⟨rfl,rfl⟩)|(go_at_call 94;refine(oF _ _ _ (by omega) (by omega) (by omega) (by omega)).mono ?_;rintro e w' ⟨rfl,rfl⟩));go_ret;exact⟨rfl,rfl⟩
 ·rw[tS h];have h':n<0∨60<n∨(0≤n∧n≤60∧k<0)∨(0≤n∧n≤60∧0≤k∧n<k):=by omega
  clear h;rcases h' with h|h|⟨h1,h2,h3⟩|⟨h1,h2,h3,h4⟩
  all_goals
   go_enter Tryz.func175,Tryz.ntmps175;go_wp2_with (first|(go_at_call 186;first|(refine(oJ _ _ (by omega) (by omega)).mono ?_;rintro e w' ⟨rfl,rfl⟩)|(refine(mJ _ _ (by omega)).mono ?_;rintro e w' ⟨rfl,rfl⟩))|(go_at_call 187;refine(TP _ _ _ (by omega) (by omega) (by omega) (by omega)).mono ?_;rintro e w' ⟨rfl,rfl⟩));go_ret;exact⟨rfl,rfl⟩
theorem TG (n k:Int) (w:World):Calls Tryz.prog 191 #[.int .i64 n,.int .i64 k] w fun e w'=>e= .returned (.int .i64 (dQ n k))∧w'=w:=by
 by_cases h:0≤n∧n≤60∧0≤k∧k≤n
 ·rw[←CG h.1 h.2.1 h.2.2.1 h.2.2.2];obtain⟨h1,h2,h3,h4⟩:=h;go_enter Tryz.func191,Tryz.ntmps191;go_wp2_with (first|(go_at_call 30;first|(refine(cO _ _ _ _ (by omega) (by omega)).mono ?_;rintro e w' ⟨rfl,rfl⟩)|(refine(dC _ _ _ _ (by omega)).mono ?_;rintro e w' ⟨rfl,rfl⟩))|(go_at_call 192;refine(WN _ _ _).mono ?_;rintro e w' ⟨rfl,rfl⟩)|(go_at_call 134;refine(ZZ _ _).mono ?_;rintro e w' ⟨rfl,rfl⟩)|(go_at_call 204;refine(Cu _ _ _).mono ?_;rintro e w' ⟨rfl,rfl⟩));go_ret;exact⟨rfl,rfl⟩
 ·rw[tS h];have h':n<0∨60<n∨(0≤n∧n≤60∧k<0)∨(0≤n∧n≤60∧0≤k∧n<k):=by omega
  clear h;rcases h' with h|h|⟨h1,h2,h3⟩|⟨h1,h2,h3,h4⟩
  all_goals
   go_enter Tryz.func191,Tryz.ntmps191;go_wp2_with (first|(go_at_call 30;first|(refine(cO _ _ _ _ (by omega) (by omega)).mono ?_;rintro e w' ⟨rfl,rfl⟩)|(refine(dC _ _ _ _ (by omega)).mono ?_;rintro e w' ⟨rfl,rfl⟩)));go_ret;exact⟨rfl,rfl⟩
end Go.Proofs.YtelkehjdfcoeiaaGreat
