/-
  The plain numbers of chapter 1, with no program in sight: the residues by 101, their powers and their falling products, and what is true of them.
-/
import Derived.WalkKit
import Derived.Test.YtkcmamepoplcdaaGreatDoorRows
import Derived.Deep.RegionHeld3
import Derived.Deep.Light
import Derived.Deep.QuietTactic
import Derived.BigQuiet
import Derived.Below
set_option maxHeartbeats 1000000
set_option maxRecDepth 100000
namespace Go.Proofs.YtkcmamepoplcdaaGreatDoor
abbrev AY:=@World.block_lt_of_cell?
abbrev aD:=@Go.RowKit.Below.refl
abbrev dT:=@bodyPost_ret
abbrev mE:=@Nat.zero_le
abbrev eH:=@Nat.lt_of_lt_of_le
abbrev nG:=@World.cell?_of_block
abbrev iW:=@Nat.le_trans
theorem aH:(∀{α:Type}(xs:List α)(i:Nat)(h:i<xs.toArray.size),xs.toArray[i]=xs[i]'(by simpa using h))∧(∀{α:Type}(a:α)(l:List α)(i:Nat)(h:i+1<(a::l).length),(a::l)[i+1]=l[i]'(by simpa using h))∧(∀{α:Type}(a:α)(l:List α)(h:0<(a::l).length),(a::l)[0]=a)∧(∀{α:Type}(l:List α)(i:Nat)(a:α),l.toArray.setIfInBounds i a=(l.set i a).toArray)∧(∀{α:Type}(x:α)(xs:List α)(a:α),(x::xs).set 0 a=a::xs)∧(∀{α:Type}(x:α)(xs:List α)(n:Nat)(a:α),(x::xs).set (n+1) a=x::xs.set n a):=⟨fun _ _ _=>List.getElem_toArray ..,fun _ _ _ _=>List.getElem_cons_succ ..,fun _ _ _=>List.getElem_cons_zero ..,fun _ _ _=>List.setIfInBounds_toArray ..,fun _ _ _=>List.set_cons_zero ..,fun _ _ _ _=>List.set_cons_succ ..⟩
def lJ (a b:Int):Int:=if 0≤a∧a≤100∧0≤b∧b≤100 then a*b%101 else 0
def pw (a:Int):Nat→Int
 |0=>1
 |n+1=>pw a n*a%101
def iv (a:Int):Int:=pw a 99
def fl (n:Int):Nat→Int
 |0=>1
 |i+1=>fl n i*((n-i)%101)%101
def nA (n k:Int):Int:=if 0≤n∧n≤60∧0≤k∧k≤60 then fl n k.toNat else 0
def jY (n k:Int):Int:=if 0≤n∧n≤60∧0≤k∧k≤n then fl n k.toNat*iv (fl k k.toNat)%101 else 0
theorem NH (a:Int) (n:Nat):0≤pw a n∧pw a n≤100:=by
 cases n with
 |zero=>simp[pw]
 |succ n=>simp only[pw];omega
theorem MX (a:Int):0≤iv a∧iv a≤100:=NH a 99
theorem CK (n:Int) (i:Nat):0≤fl n i∧fl n i≤100:=by
 cases i with
 |zero=>simp[fl]
 |succ i=>simp only[fl];omega
theorem oR {a b:Int} (ha:0≤a) (ha':a≤100) (hb:0≤b) (hb':b≤100):0≤a*b∧a*b≤10000:=by
 refine⟨Int.mul_nonneg ha hb,?_⟩
 calc a*b≤100*100:=Int.mul_le_mul ha' hb' hb (by omega)
  _=10000:=by omega
theorem NI (a:Int) (n:Nat):pw a n=a ^ n%101:=by
 induction n with
 |zero=>simp[pw]
 |succ n ih=>simp only[pw,ih,Int.pow_succ];rw[Int.mul_emod,Int.emod_emod_of_dvd _ (Int.dvd_refl 101),←Int.mul_emod]
theorem xT (a:Int) (n:Nat):(a%101) ^ n%101=a ^ n%101:=by
 induction n with
 |zero=>simp
 |succ n ih=>
  rw[Int.pow_succ,Int.pow_succ,Int.mul_emod,ih,Int.emod_emod_of_dvd _ (Int.dvd_refl 101),←Int.mul_emod]
def jB (a:Int) (n:Nat) (b m x:Int):Prop:=x*b ^ m.toNat%101=a ^ n%101
theorem uV (a:Int) (n:Int):jB a n.toNat a n 1:=by unfold jB;rw[Int.one_mul]
theorem zS {a:Int} {n:Nat} {b x:Int} (h:jB a n b 0 x) (h0:0≤x) (h1:x≤100):x=pw a n:=by unfold jB at h;rw[NI,←h];simp;omega
theorem EJ (b:Int) (m:Nat):(b*b) ^ m=b ^ (2*m):=by rw[Int.pow_mul,Int.pow_succ,Int.pow_succ,Int.pow_zero,Int.one_mul]
theorem wM {a:Int} {n:Nat} {b m x:Int} (h:jB a n b m x) (hm:0<m) (he:m%2=0):jB a n (b*b%101) (m / 2) x:=by
 unfold jB at *;rw[←h];have e:m.toNat=2*(m / 2).toNat:=by omega
 rw[e,←EJ,Int.mul_emod,xT,←Int.mul_emod]
theorem zT {a:Int} {n:Nat} {b m x:Int} (h:jB a n b m x) (hm:0<m) (he:m%2=1):jB a n (b*b%101) (m / 2) (x*b%101):=by
 unfold jB at *;rw[←h];have e:m.toNat=2*(m / 2).toNat+1:=by omega
 rw[e,Int.pow_succ,←EJ,Int.mul_emod,xT,Int.emod_emod_of_dvd _ (Int.dvd_refl 101),←Int.mul_emod];congr 1;rw[Int.mul_assoc,Int.mul_comm b]
theorem GI (n:Int) (j i:Nat) (hn:n=j) (h:j<i):fl n i=0:=by
 induction i with
 |zero=>omega
 |succ i ih=>
  simp only[fl];by_cases e:j=i
  ·subst e;subst hn;have:((j:Int)-j)%101=0:=by omega
   rw[this];simp
  ·rw[ih (by omega)];simp
theorem GH (n:Int) (j:Nat) (h:(j:Int)≤n) (hn:n≤60):fl n (j+1)=fl n j*(n-j)%101:=by
 simp only[fl];have:(n-(j:Int))%101=n-j:=by omega
 rw[this]
theorem sI {k:IntKind} {a b:Int} (h:a=b):Ending.returned (.int k a)= .returned (.int k b):=by rw[h]
theorem GG {a b:Int} (h1:0≤a) (h2:a≤100) (h3:0≤b) (h4:b≤100):lJ a b=a*b%101:=if_pos ⟨h1,h2,h3,h4⟩
theorem CH {n k:Int} (h1:0≤n) (h2:n≤60) (h3:0≤k) (h4:k≤60):nA n k=fl n k.toNat:=if_pos ⟨h1,h2,h3,h4⟩
theorem vV {n k:Int} (h1:0≤n) (h2:n≤60) (h3:0≤k) (h4:k≤n):jY n k=fl n k.toNat*iv (fl k k.toNat)%101:=if_pos ⟨h1,h2,h3,h4⟩
theorem CI {a b:Int} (h:¬(0≤a∧a≤100∧0≤b∧b≤100)):lJ a b=0:=if_neg h
theorem zG {n k:Int} (h:¬(0≤n∧n≤60∧0≤k∧k≤60)):nA n k=0:=if_neg h
theorem uB {n k:Int} (h:¬(0≤n∧n≤60∧0≤k∧k≤n)):jY n k=0:=if_neg h
theorem nH {a b:Int} (h:(a==b)=false):a≠b:=by simpa using h
theorem xI (a b:Int):0≤lJ a b∧lJ a b≤100:=by unfold lJ;split<;>omega
open Go.RowKit
set_option linter.unusedVariables false
theorem wG (a:Int) (w:World) (h1:0≤a) (h2:a≤100):Calls Tryz.prog 124 #[.int .i64 a] w fun e w'=>e= .returned (.bool true)∧w'=w:=by have d1:decide (a<101)=true:=decide_eq_true (by omega);go_enter Tryz.func124,Tryz.ntmps124;go_wp2;go_ret;exact⟨rfl,rfl⟩
theorem rZ (a:Int) (w:World) (h:a<0∨100<a):Calls Tryz.prog 124 #[.int .i64 a] w fun e w'=>e= .returned (.bool false)∧w'=w:=by
 rcases h with h|h
 ·go_enter Tryz.func124,Tryz.ntmps124;go_wp2;go_ret;exact⟨rfl,rfl⟩
 ·have d1:decide (a<101)=false:=decide_eq_false (by omega);go_enter Tryz.func124,Tryz.ntmps124;go_wp2;go_ret;exact⟨rfl,rfl⟩
theorem aN (n l h:Int) (w:World) (h1:l≤n) (h2:n≤h):Calls Tryz.prog 54 #[.int .i64 n,.int .i64 l,.int .i64 h] w fun e w'=>e= .returned (.bool true)∧w'=w:=by have d1:decide (n≤h)=true:=decide_eq_true h2;go_enter Tryz.func54,Tryz.ntmps54;go_wp2;go_ret;exact⟨rfl,rfl⟩
theorem aL (n l h:Int) (w:World) (hh:n<l∨(l≤n∧h<n)):Calls Tryz.prog 54 #[.int .i64 n,.int .i64 l,.int .i64 h] w fun e w'=>e= .returned (.bool false)∧w'=w:=by
 rcases hh with h1|⟨h1,h2⟩
 ·go_enter Tryz.func54,Tryz.ntmps54;go_wp2;go_ret;exact⟨rfl,rfl⟩
 ·have d1:decide (n≤h)=false:=decide_eq_false (by omega);go_enter Tryz.func54,Tryz.ntmps54;go_wp2;go_ret;exact⟨rfl,rfl⟩
theorem jT (a b:Int) (w:World) (h1:0≤a) (h2:a≤100) (h3:0≤b) (h4:b≤100):Calls Tryz.prog 151 #[.int .i64 a,.int .i64 b] w fun e w'=>e= .returned (.int .i64 (a*b%101))∧w'=w:=by obtain⟨hm1,hm2⟩:=oR h1 h2 h3 h4;go_enter Tryz.func151,Tryz.ntmps151;go_wp2;go_ret;exact⟨rfl,rfl⟩
theorem NF (a b:Int) (w:World) (h1:0≤a) (h2:a≤100) (h3:0≤b) (h4:b≤100):Calls Tryz.prog 150 #[.int .i64 a,.int .i64 b] w fun e w'=>e= .returned (.int .i64 ((a+b)%101))∧w'=w:=by go_enter Tryz.func150,Tryz.ntmps150;go_wp2;go_ret;exact⟨rfl,rfl⟩
theorem ID (a b:Int) (w:World):Calls Tryz.prog 177 #[.int .i64 a,.int .i64 b] w fun e w'=>e= .returned (.int .i64 (lJ a b))∧w'=w:=by
 by_cases h:0≤a∧a≤100∧0≤b∧b≤100
 ·rw[GG h.1 h.2.1 h.2.2.1 h.2.2.2];obtain⟨h1,h2,h3,h4⟩:=h;obtain⟨hm1,hm2⟩:=oR h1 h2 h3 h4;go_enter Tryz.func177,Tryz.ntmps177;go_wp2_with (first|(go_at_call 124;first|(refine(wG _ _ (by omega) (by omega)).mono ?_;rintro e w' ⟨rfl,rfl⟩)|(refine(rZ _ _ (by omega)).mono ?_;rintro e w' ⟨rfl,rfl⟩))|(go_at_call 151;refine(jT _ _ _ (by omega) (by omega) (by omega) (by omega)).mono ?_;rintro e w' ⟨rfl,rfl⟩));go_ret;exact⟨rfl,rfl⟩
 ·rw[CI h];have h':a<0∨100<a∨(0≤a∧a≤100∧b<0)∨(0≤a∧a≤100∧100<b):=by omega
  clear h;rcases h' with h|h|⟨h1,h2,h3⟩|⟨h1,h2,h3⟩
  all_goals
   go_enter Tryz.func177,Tryz.ntmps177;go_wp2_with (first|(go_at_call 124;first|(refine(wG _ _ (by omega) (by omega)).mono ?_;rintro e w' ⟨rfl,rfl⟩)|(refine(rZ _ _ (by omega)).mono ?_;rintro e w' ⟨rfl,rfl⟩))|(go_at_call 151;refine(jT _ _ _ (by omega) (by omega) (by omega) (by omega)).mono ?_;rintro e w' ⟨rfl,rfl⟩));go_ret;exact⟨rfl,rfl⟩
theorem JQ (a n:Int) (w:World) (h1:0≤a) (h2:a≤100) (h3:0≤n) (h4:n≤1000):Calls Tryz.prog 152 #[.int .i64 a,.int .i64 n] w fun e w'=>e= .returned (.int .i64 (pw a n.toNat))∧w'=w:=by
 go_enter Tryz.func152,Tryz.ntmps152;go_wp2
 go_loop [0,1,5] (fun a' n' r=>∃b m x:Int,a'= .int .i64 b∧n'= .int .i64 m∧r= .int .i64 x∧0≤b∧b≤100∧0≤m∧m≤1000∧0≤x∧x≤100∧jB a n.toNat b m x) (fun _ n' _=>(intOf n').toNat)
 case atStart=>exact⟨a,n,1,rfl,rfl,rfl,h1,h2,h3,h4,by omega,by omega,uV a n⟩
 case round=>
  obtain⟨b,m,x,rfl,rfl,rfl,b1,b2,m1,m2,x1,x2,hI⟩:=hrel;by_cases hm:0<m
  ·obtain⟨s1,s2⟩:=oR b1 b2 b1 b2;by_cases ho:m%2=1
   ·obtain⟨t1,t2⟩:=oR x1 x2 b1 b2;have hI':=zT hI hm ho
    clear hI;have hb:(m%2==1)=true:=by simp[ho]
    clear ho;go_wp2;go_round;case rel=>exact⟨_,_,_,rfl,rfl,rfl,by omega,by omega,by omega,by omega,by omega,by omega,hI'⟩
    case measure=>simp[intOf];omega
   ·have hI':=wM hI hm (by omega);clear hI;have hb:(m%2==1)=false:=by simp[ho]
    clear ho;go_wp2;go_round;case rel=>exact⟨_,_,_,rfl,rfl,rfl,by omega,by omega,by omega,by omega,by omega,by omega,hI'⟩
    case measure=>simp[intOf];omega
  ·have e:m=0:=by omega
   subst e;go_wp2;go_ret;exact⟨sI (zS hI x1 x2),rfl⟩
theorem GT (a:Int) (w:World) (h1:0≤a) (h2:a≤100):Calls Tryz.prog 207 #[.int .i64 a] w fun e w'=>e= .returned (.int .i64 (iv a))∧w'=w:=by go_enter Tryz.func207,Tryz.ntmps207;go_wp2_with (first|(go_at_call 152;refine(JQ _ _ _ (by omega) (by omega) (by omega) (by omega)).mono ?_;rintro e w' ⟨rfl,rfl⟩));go_ret;exact⟨rfl,rfl⟩
theorem jX (a:Int) (w:World) (h1:0≤a) (h2:a≤60):Calls Tryz.prog 195 #[.int .i64 a] w fun e w'=>e= .returned (.bool true)∧w'=w:=by have d1:decide (a≤60)=true:=decide_eq_true h2;go_enter Tryz.func195,Tryz.ntmps195;go_wp2;go_ret;exact⟨rfl,rfl⟩
theorem iI (a:Int) (w:World) (h:a<0∨60<a):Calls Tryz.prog 195 #[.int .i64 a] w fun e w'=>e= .returned (.bool false)∧w'=w:=by
 rcases h with h|h
 ·go_enter Tryz.func195,Tryz.ntmps195;go_wp2;go_ret;exact⟨rfl,rfl⟩
 ·have d1:decide (a≤60)=false:=decide_eq_false (by omega);go_enter Tryz.func195,Tryz.ntmps195;go_wp2;go_ret;exact⟨rfl,rfl⟩
theorem CJ (n k:Int) (w:World) (h1:0≤n) (h2:n≤60) (h3:0≤k) (h4:k≤60):Calls Tryz.prog 196 #[.int .i64 n,.int .i64 k] w fun e w'=>e= .returned (.int .i64 (fl n k.toNat))∧w'=w:=by
 go_enter Tryz.func196,Tryz.ntmps196;go_wp2
 go_loop [0,5,7] (fun a' r i=>∃j:Nat,(j:Int)≤k∧(j:Int)≤n∧a'= .int .i64 (n-j)∧r= .int .i64 (fl n j)∧i= .int .i64 j) (fun _ _ i=>(k-intOf i).toNat)
 case atStart=>exact⟨0,by omega,by omega,by simp,rfl,rfl⟩
 case round=>
  obtain⟨j,hj,hjn,rfl,rfl,rfl⟩:=hrel;obtain⟨p1,p2⟩:=CK n j;by_cases hlt:(j:Int)<k
  ·by_cases hz:n-(j:Int)=0
   ·have hb:(n-(j:Int)==0)=true:=by simp[hz]
    have hf:Hid (fl n k.toNat=0):=GI n j k.toNat (by omega) (by omega);clear hz;go_wp2;go_ret;exact⟨sI hf.out.symm,rfl⟩
   ·have hb:(n-(j:Int)==0)=false:=by simp[hz]
    clear hz;have hp:0<n-(j:Int):=by have:=nH hb;omega
    obtain⟨t1,t2⟩:=oR p1 p2 (show(0:Int)≤n-j by omega) (show n-(j:Int)≤100 by omega);have hs:Hid (fl n (j+1)=fl n j*(n-j)%101):=GH n j hjn h2
    go_wp2;go_round;case rel=>exact⟨j+1,by omega,by omega,congrArg (Value.int .i64) (by omega),by rw[hs.out];rfl,by go_num⟩
    case measure=>simp[intOf];omega
  ·go_wp2;go_ret;exact⟨sI (by rw[show k.toNat=j by omega]),rfl⟩
theorem JL (n k:Int) (w:World):Calls Tryz.prog 178 #[.int .i64 n,.int .i64 k] w fun e w'=>e= .returned (.int .i64 (nA n k))∧w'=w:=by
 by_cases h:0≤n∧n≤60∧0≤k∧k≤60
 ·rw[CH h.1 h.2.1 h.2.2.1 h.2.2.2];obtain⟨h1,h2,h3,h4⟩:=h;go_enter Tryz.func178,Tryz.ntmps178;go_wp2_with (first|(go_at_call 195;first|(refine(jX _ _ (by omega) (by omega)).mono ?_;rintro e w' ⟨rfl,rfl⟩)|(refine(iI _ _ (by omega)).mono ?_;rintro e w' ⟨rfl,rfl⟩))|(go_at_call 196;refine(CJ _ _ _ (by omega) (by omega) (by omega) (by omega)).mono ?_;rintro e w' ⟨rfl,rfl⟩));go_ret;exact⟨rfl,rfl⟩
 ·rw[zG h];have h':n<0∨60<n∨(0≤n∧n≤60∧k<0)∨(0≤n∧n≤60∧60<k):=by omega
  clear h;rcases h' with h|h|⟨h1,h2,h3⟩|⟨h1,h2,h3⟩
  all_goals
   go_enter Tryz.func178,Tryz.ntmps178;go_wp2_with (first|(go_at_call 195;first|(refine(jX _ _ (by omega) (by omega)).mono ?_;rintro e w' ⟨rfl,rfl⟩)|(refine(iI _ _ (by omega)).mono ?_;rintro e w' ⟨rfl,rfl⟩))|(go_at_call 196;refine(CJ _ _ _ (by omega) (by omega) (by omega) (by omega)).mono ?_;rintro e w' ⟨rfl,rfl⟩));go_ret;exact⟨rfl,rfl⟩
theorem FT (n k:Int) (w:World):Calls Tryz.prog 190 #[.int .i64 n,.int .i64 k] w fun e w'=>e= .returned (.int .i64 (jY n k))∧w'=w:=by
 by_cases h:0≤n∧n≤60∧0≤k∧k≤n
 ·rw[vV h.1 h.2.1 h.2.2.1 h.2.2.2];obtain⟨h1,h2,h3,h4⟩:=h;obtain⟨p1,p2⟩:=CK n k.toNat;obtain⟨q1,q2⟩:=CK k k.toNat;obtain⟨r1,r2⟩:=MX (fl k k.toNat);have d1:decide (n<k)=false:=decide_eq_false (by omega)
  go_enter Tryz.func190,Tryz.ntmps190;go_wp2_with (first|(go_at_call 195;first|(refine(jX _ _ (by omega) (by omega)).mono ?_;rintro e w' ⟨rfl,rfl⟩)|(refine(iI _ _ (by omega)).mono ?_;rintro e w' ⟨rfl,rfl⟩))|(go_at_call 196;refine(CJ _ _ _ (by omega) (by omega) (by omega) (by omega)).mono ?_;rintro e w' ⟨rfl,rfl⟩)|(go_at_call 207;refine(GT _ _ (by omega) (by omega)).mono ?_;rintro e w' ⟨rfl,rfl⟩)|(go_at_call 151;refine(jT _ _ _ (by omega) (by omega) (by omega) (by omega)).mono ?_;rintro e w' ⟨rfl,rfl⟩));go_ret;exact⟨rfl,rfl⟩
 ·rw[uB h];have h':n<0∨60<n∨(0≤n∧n≤60∧k<0)∨(0≤n∧n≤60∧0≤k∧n<k):=by omega
  clear h;rcases h' with h|h|⟨h1,h2,h3⟩|⟨h1,h2,h3,h4⟩
  all_goals
   go_enter Tryz.func190,Tryz.ntmps190;go_wp2_with (first|(go_at_call 195;first|(refine(jX _ _ (by omega) (by omega)).mono ?_;rintro e w' ⟨rfl,rfl⟩)|(refine(iI _ _ (by omega)).mono ?_;rintro e w' ⟨rfl,rfl⟩))|(go_at_call 196;refine(CJ _ _ _ (by omega) (by omega) (by omega) (by omega)).mono ?_;rintro e w' ⟨rfl,rfl⟩));go_ret;exact⟨rfl,rfl⟩
structure M where
 x:Int
 y:Int
 d:Int
 e:Int
def M.ok (m:M):Bool:=decide (0≤m.x∧m.x≤15∧0≤m.y∧m.y≤15∧0≤m.d∧m.d≤15∧0≤m.e∧m.e≤15)
theorem M.ok_iff {m:M}:m.ok=true↔0≤m.x∧m.x≤15∧0≤m.y∧m.y≤15∧0≤m.d∧m.d≤15∧0≤m.e∧m.e≤15:=by simp[M.ok]
theorem M.ok_not {m:M}:m.ok=false↔¬(0≤m.x∧m.x≤15∧0≤m.y∧m.y≤15∧0≤m.d∧m.d≤15∧0≤m.e∧m.e≤15):=by rw[←M.ok_iff];simp
def M.deg (m:M):Int:=if m.ok then m.x+m.y+m.d+m.e else 0
def c3 (a b:Int):Int:=if a<b then -1 else if b<a then 1 else 0
def M.lex (a b:M):Int:=if a.d≠b.d then c3 a.d b.d else if a.e≠b.e then c3 a.e b.e else if a.x≠b.x then c3 a.x b.x else c3 a.y b.y
def M.ord (o:Int) (a b:M):Int:=
 if o=1∧a.deg≠b.deg then c3 a.deg b.deg else if o=3∧a.d+a.x≠b.d+b.x then c3 (a.d+a.x) (b.d+b.x)else M.lex a b
def M.zero:M:=⟨0,0,0,0⟩
def M.sum (a b:M):M:=⟨a.x+b.x,a.y+b.y,a.d+b.d,a.e+b.e⟩
def M.mul (a b:M):M×Bool:=if a.ok=true∧b.ok=true∧(a.sum b).ok=true then(a.sum b,true)else(M.zero,false)
def M.dvd (a b:M):Bool:=a.ok&&b.ok&&decide (a.x≤b.x∧a.y≤b.y∧a.d≤b.d∧a.e≤b.e)
def M.diff (b a:M):M:=⟨b.x-a.x,b.y-a.y,b.d-a.d,b.e-a.e⟩
def M.over (b a:M):M×Bool:=if a.dvd b=true then(b.diff a,true)else(M.zero,false)
theorem aA {p:Prop} (h:p):Hid p:=h
theorem bX {W w1:World} (hb:Below W.heap.size W w1):(∀b o,b<W.heap.size→w1.cell? ⟨b,o,none⟩=W.cell? ⟨b,o,none⟩)∧(∀b o,b<W.heap.size→w1.frozen? ⟨b,o,none⟩=W.frozen? ⟨b,o,none⟩):=
 ⟨fun b o h=>hb.cell (p:=⟨b,o,none⟩) h,fun b o h=>hb.frozen (p:=⟨b,o,none⟩) h⟩
theorem wD (x y d e:Int) (w:World):Calls Tryz.prog 60 #[.agg #[.int .i64 x,.int .i64 y,.int .i64 d,.int .i64 e]] w fun r w'=>r= .returned (.bool (M.ok ⟨x,y,d,e⟩))∧Below w.heap.size w w':=by
 by_cases hx:0≤x∧x≤15
 ·by_cases hy:0≤y∧y≤15
  ·by_cases hd:0≤d∧d≤15
   ·by_cases he:0≤e∧e≤15
    ·rw[M.ok_iff.2 ⟨hx.1,hx.2,hy.1,hy.2,hd.1,hd.2,he.1,he.2⟩];obtain⟨x1,x2⟩:=hx;obtain⟨y1,y2⟩:=hy;obtain⟨d1,d2⟩:=hd;obtain⟨e1,e2⟩:=he;go_enter Tryz.func60,Tryz.ntmps60;go_wp2_with (first|(go_at_call 54;first|(refine(aN _ _ _ _ (by omega) (by omega)).mono ?_;rintro e w' ⟨rfl,rfl⟩)|(refine(aL _ _ _ _ (by omega)).mono ?_;rintro e w' ⟨rfl,rfl⟩)));go_ret;exact⟨rfl,(aD _ _).alloc (Nat.le_refl _) _⟩
    ·rw[M.ok_not.2 (fun h=>he ⟨h.2.2.2.2.2.2.1,h.2.2.2.2.2.2.2⟩)];go_enter Tryz.func60,Tryz.ntmps60;go_wp2_with (first|(go_at_call 54;first|(refine(aN _ _ _ _ (by omega) (by omega)).mono ?_;rintro e w' ⟨rfl,rfl⟩)|(refine(aL _ _ _ _ (by omega)).mono ?_;rintro e w' ⟨rfl,rfl⟩)));go_ret;exact⟨rfl,(aD _ _).alloc (Nat.le_refl _) _⟩
   ·rw[M.ok_not.2 (fun h=>hd ⟨h.2.2.2.2.1,h.2.2.2.2.2.1⟩)];go_enter Tryz.func60,Tryz.ntmps60;go_wp2_with (first|(go_at_call 54;first|(refine(aN _ _ _ _ (by omega) (by omega)).mono ?_;rintro e w' ⟨rfl,rfl⟩)|(refine(aL _ _ _ _ (by omega)).mono ?_;rintro e w' ⟨rfl,rfl⟩)));go_ret;exact⟨rfl,(aD _ _).alloc (Nat.le_refl _) _⟩
  ·rw[M.ok_not.2 (fun h=>hy ⟨h.2.2.1,h.2.2.2.1⟩)];go_enter Tryz.func60,Tryz.ntmps60;go_wp2_with (first|(go_at_call 54;first|(refine(aN _ _ _ _ (by omega) (by omega)).mono ?_;rintro e w' ⟨rfl,rfl⟩)|(refine(aL _ _ _ _ (by omega)).mono ?_;rintro e w' ⟨rfl,rfl⟩)));go_ret;exact⟨rfl,(aD _ _).alloc (Nat.le_refl _) _⟩
 ·rw[M.ok_not.2 (fun h=>hx ⟨h.1,h.2.1⟩)];go_enter Tryz.func60,Tryz.ntmps60;go_wp2_with (first|(go_at_call 54;first|(refine(aN _ _ _ _ (by omega) (by omega)).mono ?_;rintro e w' ⟨rfl,rfl⟩)|(refine(aL _ _ _ _ (by omega)).mono ?_;rintro e w' ⟨rfl,rfl⟩)));go_ret;exact⟨rfl,(aD _ _).alloc (Nat.le_refl _) _⟩
theorem fU {x y d e:Int} {b:Bool} (h:M.ok ⟨x,y,d,e⟩=b) (w:World):Calls Tryz.prog 60 #[.agg #[.int .i64 x,.int .i64 y,.int .i64 d,.int .i64 e]] w fun r w'=>r= .returned (.bool b)∧Below w.heap.size w w':=by rw[←h];exact wD x y d e w
theorem jZ (x y d e:Int) (w:World):Calls Tryz.prog 90 #[.agg #[.int .i64 x,.int .i64 y,.int .i64 d,.int .i64 e]] w fun r w'=>r= .returned (.int .i64 (M.deg ⟨x,y,d,e⟩))∧Below w.heap.size w w':=by
 cases h:M.ok ⟨x,y,d,e⟩
 ·have hd:M.deg ⟨x,y,d,e⟩=0:=by simp[M.deg,h]
  rw[hd];go_enter Tryz.func90,Tryz.ntmps90;go_wp2_with fail;refine(wD _ _ _ _ _).mono ?_;rw[h];rintro r w1 ⟨rfl,hb⟩;go_wp2;go_ret;exact⟨rfl,(aD _ _).trans (((aD _ _).alloc (Nat.le_refl _) _).trans (hb.mono (by simp)))⟩
 ·have hd:M.deg ⟨x,y,d,e⟩=x+y+d+e:=by simp[M.deg,h]
  rw[hd];obtain⟨x1,x2,y1,y2,d1,d2,e1,e2⟩:=M.ok_iff.1 h;simp only at x1 x2 y1 y2 d1 d2 e1 e2;go_enter Tryz.func90,Tryz.ntmps90;go_wp2_with fail;refine(wD _ _ _ _ _).mono ?_;rw[h];rintro r w1 ⟨rfl,hb⟩;obtain⟨hc,hf⟩:=bX hb;go_wp2;go_ret;exact⟨rfl,((aD _ _).alloc (Nat.le_refl _) _).trans (hb.mono (by simp))⟩
theorem BU (a b:Int) (w:World):Calls Tryz.prog 91 #[.int .i64 a,.int .i64 b] w fun r w'=>r= .returned (.int .i64 (c3 a b))∧w'=w:=by
 by_cases h1:a<b
 ·have e1:c3 a b= -1:=by simp[c3,h1]
  rw[e1];go_enter Tryz.func91,Tryz.ntmps91;go_wp2;go_ret;exact⟨rfl,rfl⟩
 ·by_cases h2:b<a
  ·have e1:c3 a b=1:=by simp[c3,h1,h2]
   rw[e1];go_enter Tryz.func91,Tryz.ntmps91;go_wp2;go_ret;exact⟨rfl,rfl⟩
  ·have e1:c3 a b=0:=by simp[c3,h1,h2]
   rw[e1];go_enter Tryz.func91,Tryz.ntmps91;go_wp2;go_ret;exact⟨rfl,rfl⟩
theorem OV (x y d e x' y' d' e':Int) (w:World):Calls Tryz.prog 92 #[.agg #[.int .i64 x,.int .i64 y,.int .i64 d,.int .i64 e],.agg #[.int .i64 x',.int .i64 y',.int .i64 d',.int .i64 e']] w fun r w'=>r= .returned (.int .i64 (M.lex ⟨x,y,d,e⟩ ⟨x',y',d',e'⟩))∧Below w.heap.size w w':=by
 by_cases hd:d=d'
 ·by_cases he:e=e'
  ·by_cases hx:x=x'
   ·have e1:M.lex ⟨x,y,d,e⟩ ⟨x',y',d',e'⟩=c3 y y':=by simp[M.lex,hd,he,hx]
    rw[e1];have b1:(d !=d')=false:=by simp[hd]
    have b2:(e !=e')=false:=by simp[he]
    have b3:(x !=x')=false:=by simp[hx]
    clear hd he hx e1;go_enter Tryz.func92,Tryz.ntmps92;go_wp2_with (first|(go_at_call 91;refine(BU _ _ _).mono ?_;rintro r w' ⟨rfl,rfl⟩));go_ret;exact⟨rfl,((aD _ _).alloc (Nat.le_refl _) _).alloc (by simp) _⟩
   ·have e1:M.lex ⟨x,y,d,e⟩ ⟨x',y',d',e'⟩=c3 x x':=by simp[M.lex,hd,he,hx]
    rw[e1];have b1:(d !=d')=false:=by simp[hd]
    have b2:(e !=e')=false:=by simp[he]
    have b3:(x !=x')=true:=by simp[hx]
    clear hd he hx e1;go_enter Tryz.func92,Tryz.ntmps92;go_wp2_with (first|(go_at_call 91;refine(BU _ _ _).mono ?_;rintro r w' ⟨rfl,rfl⟩));go_ret;exact⟨rfl,((aD _ _).alloc (Nat.le_refl _) _).alloc (by simp) _⟩
  ·have e1:M.lex ⟨x,y,d,e⟩ ⟨x',y',d',e'⟩=c3 e e':=by simp[M.lex,hd,he]
   rw[e1];have b1:(d !=d')=false:=by simp[hd]
   have b2:(e !=e')=true:=by simp[he]
   clear hd he e1;go_enter Tryz.func92,Tryz.ntmps92;go_wp2_with (first|(go_at_call 91;refine(BU _ _ _).mono ?_;rintro r w' ⟨rfl,rfl⟩));go_ret;exact⟨rfl,((aD _ _).alloc (Nat.le_refl _) _).alloc (by simp) _⟩
 ·have e1:M.lex ⟨x,y,d,e⟩ ⟨x',y',d',e'⟩=c3 d d':=by simp[M.lex,hd]
  rw[e1];have b1:(d !=d')=true:=by simp[hd]
  clear hd e1;go_enter Tryz.func92,Tryz.ntmps92;go_wp2_with (first|(go_at_call 91;refine(BU _ _ _).mono ?_;rintro r w' ⟨rfl,rfl⟩));go_ret;exact⟨rfl,((aD _ _).alloc (Nat.le_refl _) _).alloc (by simp) _⟩
theorem aC {w W W':World} (a:Below w.heap.size w W) (h:Below W.heap.size W W'):Below w.heap.size w W':=a.trans (h.mono a.size)
theorem dR (w:World) (A B:Obj):Below w.heap.size w ((w.alloc A).alloc B):=((aD _ _).alloc (Nat.le_refl _) _).alloc (by simp) _
theorem eI (w:World) (A B C:Obj):Below w.heap.size w (((w.alloc A).alloc B).alloc C):=(dR w A B).alloc (dR w A B).size _
theorem lB {n B:Nat} {a w:World} (h:Below n a w) (hB:n≤B) (u0 u1 u2 u3:Value):Below n a ((((w.setCell ⟨B,0,none⟩ u0).setCell ⟨B,1,none⟩ u1).setCell ⟨B,2,none⟩ u2).setCell ⟨B,3,none⟩ u3):=
 (((h.setCell hB u0).setCell hB u1).setCell hB u2).setCell hB u3
theorem DG (x y d e x' y' d' e':Int) (w:World):Calls Tryz.prog 61 #[.int .i64 1,.agg #[.int .i64 x,.int .i64 y,.int .i64 d,.int .i64 e],.agg #[.int .i64 x',.int .i64 y',.int .i64 d',.int .i64 e']] w fun r w'=>r= .returned (.int .i64 (M.ord 1 ⟨x,y,d,e⟩ ⟨x',y',d',e'⟩))∧Below w.heap.size w w':=by
 by_cases hd:M.deg ⟨x,y,d,e⟩=M.deg ⟨x',y',d',e'⟩
 ·have e1:M.ord 1 ⟨x,y,d,e⟩ ⟨x',y',d',e'⟩=M.lex ⟨x,y,d,e⟩ ⟨x',y',d',e'⟩:=by simp[M.ord,hd]
  rw[e1];have b1:(M.deg ⟨x,y,d,e⟩!=M.deg ⟨x',y',d',e'⟩)=false:=by simp[hd]
  clear hd e1;go_enter Tryz.func61,Tryz.ntmps61;go_wp2_with fail
  go_region_held3 (fun u=>u.cell? ⟨w.heap.size,0,none⟩=some (.int .i64 x)∧u.cell? ⟨w.heap.size,1,none⟩=some (.int .i64 y)∧u.cell? ⟨w.heap.size,2,none⟩=some (.int .i64 d)∧u.cell? ⟨w.heap.size,3,none⟩=some (.int .i64 e)∧u.cell? ⟨w.heap.size+1,0,none⟩=some (.int .i64 x')∧u.cell? ⟨w.heap.size+1,1,none⟩=some (.int .i64 y')∧u.cell? ⟨w.heap.size+1,2,none⟩=some (.int .i64 d')∧u.cell? ⟨w.heap.size+1,3,none⟩=some (.int .i64 e')) ((go_light;first|(refine⟨?_,?_,?_,?_,?_,?_,?_,?_⟩<;>(simp only[(bX hb4).1 _ _ hz3,(bX hb4).1 _ _ hy3, *];done))|(refine⟨?_,?_,?_,?_,?_,?_,?_,?_⟩<;>(simp only[(bX hb3).1 _ _ hz2,(bX hb3).1 _ _ hy2, *];done))|(refine⟨?_,?_,?_,?_,?_,?_,?_,?_⟩<;>(simp only[(bX hb2).1 _ _ hz1,(bX hb2).1 _ _ hy1, *];done))|(have hc:=(bX hb1).1;refine⟨?_,?_,?_,?_,?_,?_,?_,?_⟩<;>go_simp<;>done)|(refine⟨?_,?_,?_,?_,?_,?_,?_,?_⟩<;>go_simp<;>done))) (first|(go_at_call_of 90 (Value.int IntKind.i64 x);refine(jZ x y d e _).mono ?_;rintro r w1 ⟨rfl,hb1⟩;have hz1:w.heap.size<w1.heap.size:=(by have:=hb1.size;first|omega|(simp at this;omega));have hy1:w.heap.size+1<w1.heap.size:=(by have:=hb1.size;first|omega|(simp at this;omega)))|(go_at_call_of 90 (Value.int IntKind.i64 x');refine(jZ x' y' d' e' _).mono ?_;rintro r w2 ⟨rfl,hb2⟩;have hz2:w.heap.size<w2.heap.size:=(by have:=hb2.size;first|omega|(simp at this;omega));have hy2:w.heap.size+1<w2.heap.size:=(by have:=hb2.size;first|omega|(simp at this;omega))))
  go_wp2_with (first|(go_at_call 92;refine(OV x y d e x' y' d' e' _).mono ?_;rintro r w5 ⟨rfl,hb5⟩));go_ret;exact⟨rfl,aC (aC (aC (dR w _ _).drew hb1) hb2) hb5⟩
 ·have e1:M.ord 1 ⟨x,y,d,e⟩ ⟨x',y',d',e'⟩=c3 (M.deg ⟨x,y,d,e⟩) (M.deg ⟨x',y',d',e'⟩):=by simp[M.ord,hd]
  rw[e1];have b1:(M.deg ⟨x,y,d,e⟩!=M.deg ⟨x',y',d',e'⟩)=true:=by simp[hd]
  clear hd e1;go_enter Tryz.func61,Tryz.ntmps61;go_wp2_with fail
  go_region_held3 (fun u=>u.cell? ⟨w.heap.size,0,none⟩=some (.int .i64 x)∧u.cell? ⟨w.heap.size,1,none⟩=some (.int .i64 y)∧u.cell? ⟨w.heap.size,2,none⟩=some (.int .i64 d)∧u.cell? ⟨w.heap.size,3,none⟩=some (.int .i64 e)∧u.cell? ⟨w.heap.size+1,0,none⟩=some (.int .i64 x')∧u.cell? ⟨w.heap.size+1,1,none⟩=some (.int .i64 y')∧u.cell? ⟨w.heap.size+1,2,none⟩=some (.int .i64 d')∧u.cell? ⟨w.heap.size+1,3,none⟩=some (.int .i64 e')) ((go_light;first|(refine⟨?_,?_,?_,?_,?_,?_,?_,?_⟩<;>(simp only[(bX hb4).1 _ _ hz3,(bX hb4).1 _ _ hy3, *];done))|(refine⟨?_,?_,?_,?_,?_,?_,?_,?_⟩<;>(simp only[(bX hb3).1 _ _ hz2,(bX hb3).1 _ _ hy2, *];done))|(refine⟨?_,?_,?_,?_,?_,?_,?_,?_⟩<;>(simp only[(bX hb2).1 _ _ hz1,(bX hb2).1 _ _ hy1, *];done))|(have hc:=(bX hb1).1;refine⟨?_,?_,?_,?_,?_,?_,?_,?_⟩<;>go_simp<;>done)|(refine⟨?_,?_,?_,?_,?_,?_,?_,?_⟩<;>go_simp<;>done))) (first|(go_at_call_of 90 (Value.int IntKind.i64 x);refine(jZ x y d e _).mono ?_;rintro r w1 ⟨rfl,hb1⟩;have hz1:w.heap.size<w1.heap.size:=(by have:=hb1.size;first|omega|(simp at this;omega));have hy1:w.heap.size+1<w1.heap.size:=(by have:=hb1.size;first|omega|(simp at this;omega)))|(go_at_call_of 90 (Value.int IntKind.i64 x');refine(jZ x' y' d' e' _).mono ?_;rintro r w2 ⟨rfl,hb2⟩;have hz2:w.heap.size<w2.heap.size:=(by have:=hb2.size;first|omega|(simp at this;omega));have hy2:w.heap.size+1<w2.heap.size:=(by have:=hb2.size;first|omega|(simp at this;omega))))
  go_wp2_with fail
  go_region_held3 (fun u=>u.cell? ⟨w.heap.size,0,none⟩=some (.int .i64 x)∧u.cell? ⟨w.heap.size,1,none⟩=some (.int .i64 y)∧u.cell? ⟨w.heap.size,2,none⟩=some (.int .i64 d)∧u.cell? ⟨w.heap.size,3,none⟩=some (.int .i64 e)∧u.cell? ⟨w.heap.size+1,0,none⟩=some (.int .i64 x')∧u.cell? ⟨w.heap.size+1,1,none⟩=some (.int .i64 y')∧u.cell? ⟨w.heap.size+1,2,none⟩=some (.int .i64 d')∧u.cell? ⟨w.heap.size+1,3,none⟩=some (.int .i64 e')) ((go_light;first|(refine⟨?_,?_,?_,?_,?_,?_,?_,?_⟩<;>(simp only[(bX hb4).1 _ _ hz3,(bX hb4).1 _ _ hy3, *];done))|(refine⟨?_,?_,?_,?_,?_,?_,?_,?_⟩<;>(simp only[(bX hb3).1 _ _ hz2,(bX hb3).1 _ _ hy2, *];done))|(refine⟨?_,?_,?_,?_,?_,?_,?_,?_⟩<;>(simp only[(bX hb2).1 _ _ hz1,(bX hb2).1 _ _ hy1, *];done))|(have hc:=(bX hb1).1;refine⟨?_,?_,?_,?_,?_,?_,?_,?_⟩<;>go_simp<;>done)|(refine⟨?_,?_,?_,?_,?_,?_,?_,?_⟩<;>go_simp<;>done))) (first|(go_at_call_of 90 (Value.int IntKind.i64 x);refine(jZ x y d e _).mono ?_;rintro r w3 ⟨rfl,hb3⟩;have hz3:w.heap.size<w3.heap.size:=(by have:=hb3.size;first|omega|(simp at this;omega));have hy3:w.heap.size+1<w3.heap.size:=(by have:=hb3.size;first|omega|(simp at this;omega)))|(go_at_call_of 90 (Value.int IntKind.i64 x');refine(jZ x' y' d' e' _).mono ?_;rintro r w4 ⟨rfl,hb4⟩;have hz4:w.heap.size<w4.heap.size:=(by have:=hb4.size;first|omega|(simp at this;omega));have hy4:w.heap.size+1<w4.heap.size:=(by have:=hb4.size;first|omega|(simp at this;omega)))|(go_at_call 91;refine(BU _ _ _).mono ?_;rintro r w' ⟨rfl,rfl⟩))
  go_wp2;go_ret;exact⟨rfl,aC (aC (aC (aC (dR w _ _).drew hb1) hb2).drew hb3) hb4⟩
def dF (w:World):Type:=Subtype (fun u:World=>Below w.heap.size w u)
theorem dF.there (w:World):Nonempty (dF w):=⟨⟨w,aD _ _⟩⟩
theorem dF.cell {w:World} (x:dF w) {b o:Nat} (h:b<w.heap.size):x.1.cell? ⟨b,o,none⟩=w.cell? ⟨b,o,none⟩:=x.2.cell (p:=⟨b,o,none⟩) h
theorem aS {P:Program} {id:Nat} {Q:Exit→Act→World→Prop} {a:Act} {w:World} {l:List Oper} (hm:P.follows .mixedOrders=true) (hB:Region.lexB .any l.toArray=true) (h:wpQuiet P l.toArray (fun u=>∃x:dF w,u=x.1) (fun a'=>∀w',(∃x:dF w,w'=x.1)→Q .normal a' w') l a):(Code.region id l.toArray true).wp P Q a w:=
 wp_region_quiet (C:=fun u=>∃x:dF w,u=x.1) hm hB ⟨⟨_,(aD _ _).drew⟩,rfl⟩ (by simpa using h)
theorem fX {P:Program} {f:FuncId} {args:Array Value} {w:World} {x:dF w} {v:Value} (h:Calls P f args x.1 fun e w'=>e= .returned v∧w'=x.1):Calls P f args x.1 fun e w''=>e= .returned v∧∃y:dF w,w''=y.1:=
 h.mono fun _ _ ⟨he,hm⟩=>⟨he,x,hm⟩
theorem bD {P:Program} {f:FuncId} {args:Array Value} {w:World} {x:dF w} {v:Value} (h:Calls P f args x.1 fun e w'=>e= .returned v∧Below x.1.heap.size x.1 w'):Calls P f args x.1 fun e w''=>e= .returned v∧∃y:dF w,w''=y.1:=
 h.mono fun _ w' ⟨he,hm⟩=>⟨he,⟨w',x.2.trans (hm.mono x.2.size)⟩,rfl⟩
end Go.Proofs.YtkcmamepoplcdaaGreatDoor
