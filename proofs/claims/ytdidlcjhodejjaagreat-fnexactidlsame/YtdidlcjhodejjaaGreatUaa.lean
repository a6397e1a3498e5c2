/-
  The plain numbers of chapter 1, with no program in sight: the residues by 101, their powers and their falling products, 
-/
import Derived.WalkKit
import Derived.Test.YtdidlcjhodejjaaGreatRows
import Derived.Deep.RegionHeld3
import Derived.Deep.Light
namespace Go.Proofs.YtdidlcjhodejjaaGreat
def fMul (a b:Int):Int:=if 0≤a∧a≤100∧0≤b∧b≤100 then a * b % 101 else 0
def pw (a:Int):Nat→Int
 | 0=>1
 | n+1=>pw a n * a % 101
def fPow (a n:Int):Int:=if 0≤a∧a≤100∧0≤n∧n≤1000 then pw a n.toNat else 0
def iv (a:Int):Int:=pw a 99
def fInv (a:Int):Int:=if 0≤a∧a≤100 then iv a else 0
def fl (n:Int):Nat→Int
 | 0=>1
 | i+1=>fl n i * ((n - i) % 101) % 101
def fFall (n k:Int):Int:=if 0≤n∧n≤60∧0≤k∧k≤60 then fl n k.toNat else 0
def fChoose (n k:Int):Int:=if 0≤n∧n≤60∧0≤k∧k≤n then fl n k.toNat * iv (fl k k.toNat) % 101 else 0
def fDiv (a b:Int):Int:=if 0≤a∧a≤100∧0≤b∧b≤100 then a * iv b % 101 else 0
theorem pw_bd (a:Int) (n:Nat):0≤pw a n∧pw a n≤100:=by
 cases n with
 | zero=>simp [pw]
 | succ n=>simp only [pw];omega
theorem iv_bd (a:Int):0≤iv a∧iv a≤100:=pw_bd a 99
theorem fl_bd (n:Int) (i:Nat):0≤fl n i∧fl n i≤100:=by
 cases i with
 | zero=>simp [fl]
 | succ i=>simp only [fl];omega
theorem mul_bd {a b:Int} (ha:0≤a) (ha':a≤100) (hb:0≤b) (hb':b≤100):0≤a * b∧a * b≤10000:=by
 refine ⟨Int.mul_nonneg ha hb,?_⟩
 calc a * b≤100 * 100:=Int.mul_le_mul ha' hb' hb (by omega)
  _=10000:=by omega
theorem pw_eq (a:Int) (n:Nat):pw a n=a ^ n % 101:=by
 induction n with
 | zero=>simp [pw]
 | succ n ih=>simp only [pw,ih,Int.pow_succ];rw [Int.mul_emod,Int.emod_emod_of_dvd _ (Int.dvd_refl 101),← Int.mul_emod]
theorem mod_pow (a:Int) (n:Nat):(a % 101) ^ n % 101=a ^ n % 101:=by
 induction n with
 | zero=>simp
 | succ n ih=>
  rw [Int.pow_succ,Int.pow_succ,Int.mul_emod,ih,Int.emod_emod_of_dvd _ (Int.dvd_refl 101),← Int.mul_emod]
def PwInv (a:Int) (n:Nat) (b m x:Int):Prop:=x * b ^ m.toNat % 101=a ^ n % 101
theorem pwInv_start (a:Int) (n:Int):PwInv a n.toNat a n 1:=by unfold PwInv;rw [Int.one_mul]
theorem pwInv_end {a:Int} {n:Nat} {b x:Int} (h:PwInv a n b 0 x) (h0:0≤x) (h1:x≤100):x=pw a n:=by
 unfold PwInv at h
 rw [pw_eq,← h]
 simp
 omega
theorem sq_pow (b:Int) (m:Nat):(b * b) ^ m=b ^ (2 * m):=by
 rw [Int.pow_mul,Int.pow_succ,Int.pow_succ,Int.pow_zero,Int.one_mul]
theorem pwInv_even {a:Int} {n:Nat} {b m x:Int} (h:PwInv a n b m x) (hm:0<m) (he:m % 2=0):PwInv a n (b * b % 101) (m / 2) x:=by
 unfold PwInv at *
 rw [← h]
 have e:m.toNat=2 * (m / 2).toNat:=by omega
 rw [e,← sq_pow,Int.mul_emod,mod_pow,← Int.mul_emod]
theorem pwInv_odd {a:Int} {n:Nat} {b m x:Int} (h:PwInv a n b m x) (hm:0<m) (he:m % 2=1):PwInv a n (b * b % 101) (m / 2) (x * b % 101):=by
 unfold PwInv at *
 rw [← h]
 have e:m.toNat=2 * (m / 2).toNat+1:=by omega
 rw [e,Int.pow_succ,← sq_pow,Int.mul_emod,mod_pow,Int.emod_emod_of_dvd _ (Int.dvd_refl 101),← Int.mul_emod]
 congr 1
 rw [Int.mul_assoc,Int.mul_comm b]
theorem fl_zero (n:Int) (j i:Nat) (hn:n=j) (h:j<i):fl n i=0:=by
 induction i with
 | zero=>omega
 | succ i ih=>
  simp only [fl]
  by_cases e:j=i
  ·subst e;subst hn
   have:((j:Int) - j) % 101=0:=by omega
   rw [this];simp
  ·rw [ih (by omega)];simp
theorem fl_step (n:Int) (j:Nat) (h:(j:Int)≤n) (hn:n≤60):fl n (j+1)=fl n j * (n - j) % 101:=by
 simp only [fl]
 have:(n - (j:Int)) % 101=n - j:=by omega
 rw [this]
theorem ret_int {k:IntKind} {a b:Int} (h:a=b):Ending.returned (.int k a)=.returned (.int k b):=by rw [h]
theorem fMul_in {a b:Int} (h1:0≤a) (h2:a≤100) (h3:0≤b) (h4:b≤100):fMul a b=a * b % 101:=if_pos ⟨h1,h2,h3,h4⟩
theorem fDiv_in {a b:Int} (h1:0≤a) (h2:a≤100) (h3:0≤b) (h4:b≤100):fDiv a b=a * iv b % 101:=if_pos ⟨h1,h2,h3,h4⟩
theorem fInv_in {a:Int} (h1:0≤a) (h2:a≤100):fInv a=iv a:=if_pos ⟨h1,h2⟩
theorem fPow_in {a n:Int} (h1:0≤a) (h2:a≤100) (h3:0≤n) (h4:n≤1000):fPow a n=pw a n.toNat:=if_pos ⟨h1,h2,h3,h4⟩
theorem fFall_in {n k:Int} (h1:0≤n) (h2:n≤60) (h3:0≤k) (h4:k≤60):fFall n k=fl n k.toNat:=if_pos ⟨h1,h2,h3,h4⟩
theorem fChoose_in {n k:Int} (h1:0≤n) (h2:n≤60) (h3:0≤k) (h4:k≤n):fChoose n k=fl n k.toNat * iv (fl k k.toNat) % 101:=if_pos ⟨h1,h2,h3,h4⟩
theorem fMul_out {a b:Int} (h:¬ (0≤a∧a≤100∧0≤b∧b≤100)):fMul a b=0:=if_neg h
theorem fDiv_out {a b:Int} (h:¬ (0≤a∧a≤100∧0≤b∧b≤100)):fDiv a b=0:=if_neg h
theorem fInv_out {a:Int} (h:¬ (0≤a∧a≤100)):fInv a=0:=if_neg h
theorem fPow_out {a n:Int} (h:¬ (0≤a∧a≤100∧0≤n∧n≤1000)):fPow a n=0:=if_neg h
theorem fFall_out {n k:Int} (h:¬ (0≤n∧n≤60∧0≤k∧k≤60)):fFall n k=0:=if_neg h
theorem fChoose_out {n k:Int} (h:¬ (0≤n∧n≤60∧0≤k∧k≤n)):fChoose n k=0:=if_neg h
theorem of_eq_false_beq {a b:Int} (h:(a == b)=false):a≠b:=by simpa using h
theorem fPow_iv (a:Int):fPow a 99=fInv a:=by
 by_cases h:0≤a∧a≤100
 ·rw [fPow_in h.1 h.2 (by omega) (by omega),fInv_in h.1 h.2];rfl
 ·rw [fPow_out (by omega),fInv_out h]
theorem fChoose_mul {n k:Int} (h1:0≤n) (h2:n≤60) (h3:0≤k) (h4:k≤n):fMul (fFall n k) (fInv (fFall k k))=fChoose n k:=by
 have b1:=fl_bd n k.toNat
 have b2:=fl_bd k k.toNat
 have b3:=iv_bd (fl k k.toNat)
 rw [fChoose_in h1 h2 h3 h4,fFall_in h1 h2 h3 (by omega),fFall_in h3 (by omega) h3 (by omega),fInv_in b2.1 b2.2,fMul_in b1.1 b1.2 b3.1 b3.2]
theorem fInv_bd (a:Int):0≤fInv a∧fInv a≤100:=by
 have:=iv_bd a
 unfold fInv;split <;> omega
theorem prime_nat:∀ a:Fin 101,∀ b:Fin 101,a.val * b.val % 101=0→a.val=0∨b.val=0:=by decide +kernel
theorem mul_zero_iff {a b:Int} (ha:0≤a∧a≤100) (hb:0≤b∧b≤100) (h:a * b % 101=0):a=0∨b=0:=by
 obtain ⟨x,rfl⟩:=Int.eq_ofNat_of_zero_le ha.1
 obtain ⟨y,rfl⟩:=Int.eq_ofNat_of_zero_le hb.1
 have:=prime_nat ⟨x,by omega⟩ ⟨y,by omega⟩ (by simp only;omega)
 simp only at this
 omega
theorem fMul_ne {a b:Int} (ha:0≤a∧a≤100) (hb:0≤b∧b≤100) (h1:a≠0) (h2:b≠0):fMul a b≠0:=by
 rw [fMul_in ha.1 ha.2 hb.1 hb.2]
 intro h
 have:=mul_zero_iff ha hb h
 omega
theorem inv_nat:∀ a:Fin 101,a.val≠0→pw (a.val:Int) 99 * (a.val:Int) % 101=1:=by decide +kernel
theorem iv_mul {b:Int} (hb:0≤b∧b≤100) (h0:b≠0):iv b * b % 101=1:=by
 obtain ⟨x,rfl⟩:=Int.eq_ofNat_of_zero_le hb.1
 exact inv_nat ⟨x,by omega⟩ (by simp only;omega)
theorem fMul_inv {b:Int} (hb:0≤b∧b≤100) (h0:b≠0):fMul (fInv b) b=1:=by
 rw [fInv_in hb.1 hb.2,fMul_in (iv_bd b).1 (iv_bd b).2 hb.1 hb.2,iv_mul hb h0]
end Go.Proofs.YtdidlcjhodejjaaGreat
namespace Go.Proofs.YtdidlcjhodejjaaGreat
open Go.RowKit
set_option linter.unusedVariables false
theorem okI_in (a:Int) (w:World) (h1:0≤a) (h2:a≤100) :
  Calls Tryz.prog 71 #[.int .i64 a] w fun e w'=>e=.returned (.bool true)∧w'=w:=by
 have d1:decide (a<101)=true:=decide_eq_true (by omega)
 go_enter Tryz.func71,Tryz.ntmps71
 go_wp2
 go_ret
 exact ⟨rfl,rfl⟩
theorem okI_out (a:Int) (w:World) (h:a<0∨100<a) :
  Calls Tryz.prog 71 #[.int .i64 a] w fun e w'=>e=.returned (.bool false)∧w'=w:=by
 rcases h with h | h
 ·go_enter Tryz.func71,Tryz.ntmps71
  go_wp2
  go_ret
  exact ⟨rfl,rfl⟩
 ·have d1:decide (a<101)=false:=decide_eq_false (by omega)
  go_enter Tryz.func71,Tryz.ntmps71
  go_wp2
  go_ret
  exact ⟨rfl,rfl⟩
theorem inS_in (n l h:Int) (w:World) (h1:l≤n) (h2:n≤h) :
  Calls Tryz.prog 39 #[.int .i64 n,.int .i64 l,.int .i64 h] w fun e w'=>e=.returned (.bool true)∧w'=w:=by
 have d1:decide (n≤h)=true:=decide_eq_true h2
 go_enter Tryz.func39,Tryz.ntmps39
 go_wp2
 go_ret
 exact ⟨rfl,rfl⟩
theorem inS_out (n l h:Int) (w:World) (hh:n<l∨(l≤n∧h<n)) :
  Calls Tryz.prog 39 #[.int .i64 n,.int .i64 l,.int .i64 h] w fun e w'=>e=.returned (.bool false)∧w'=w:=by
 rcases hh with h1 | ⟨h1,h2⟩
 ·go_enter Tryz.func39,Tryz.ntmps39
  go_wp2
  go_ret
  exact ⟨rfl,rfl⟩
 ·have d1:decide (n≤h)=false:=decide_eq_false (by omega)
  go_enter Tryz.func39,Tryz.ntmps39
  go_wp2
  go_ret
  exact ⟨rfl,rfl⟩
theorem okS_in (a:Int) (w:World) (h1:0≤a) (h2:a≤100) :
  Calls Tryz.prog 156 #[.int .i64 a] w fun e w'=>e=.returned (.bool true)∧w'=w:=by
 go_enter Tryz.func156,Tryz.ntmps156
 go_wp2_with (first | (go_at_call 39;first | (refine (inS_in _ _ _ _ (by omega) (by omega)).mono ?_;rintro e w' ⟨rfl,rfl⟩) | (refine (inS_out _ _ _ _ (by omega)).mono ?_;rintro e w' ⟨rfl,rfl⟩)))
 go_ret
 exact ⟨rfl,rfl⟩
theorem okS_out (a:Int) (w:World) (h:a<0∨100<a) :
  Calls Tryz.prog 156 #[.int .i64 a] w fun e w'=>e=.returned (.bool false)∧w'=w:=by
 rcases h with h | h
 ·go_enter Tryz.func156,Tryz.ntmps156
  go_wp2_with (first | (go_at_call 39;first | (refine (inS_in _ _ _ _ (by omega) (by omega)).mono ?_;rintro e w' ⟨rfl,rfl⟩) | (refine (inS_out _ _ _ _ (by omega)).mono ?_;rintro e w' ⟨rfl,rfl⟩)))
  go_ret
  exact ⟨rfl,rfl⟩
 ·go_enter Tryz.func156,Tryz.ntmps156
  go_wp2_with (first | (go_at_call 39;first | (refine (inS_in _ _ _ _ (by omega) (by omega)).mono ?_;rintro e w' ⟨rfl,rfl⟩) | (refine (inS_out _ _ _ _ (by omega)).mono ?_;rintro e w' ⟨rfl,rfl⟩)))
  go_ret
  exact ⟨rfl,rfl⟩
theorem times (a b:Int) (w:World) (h1:0≤a) (h2:a≤100) (h3:0≤b) (h4:b≤100) :
  Calls Tryz.prog 117 #[.int .i64 a,.int .i64 b] w fun e w'=>e=.returned (.int .i64 (a * b % 101))∧w'=w:=by
 obtain ⟨hm1,hm2⟩:=mul_bd h1 h2 h3 h4
 go_enter Tryz.func117,Tryz.ntmps117
 go_wp2
 go_ret
 exact ⟨rfl,rfl⟩
theorem plus (a b:Int) (w:World) (h1:0≤a) (h2:a≤100) (h3:0≤b) (h4:b≤100) :
  Calls Tryz.prog 176 #[.int .i64 a,.int .i64 b] w fun e w'=>e=.returned (.int .i64 ((a+b) % 101))∧w'=w:=by
 go_enter Tryz.func176,Tryz.ntmps176
 go_wp2
 go_ret
 exact ⟨rfl,rfl⟩
theorem mulI (a b:Int) (w:World) :
  Calls Tryz.prog 72 #[.int .i64 a,.int .i64 b] w fun e w'=>e=.returned (.int .i64 (fMul a b))∧w'=w:=by
 by_cases h:0≤a∧a≤100∧0≤b∧b≤100
 ·rw [fMul_in h.1 h.2.1 h.2.2.1 h.2.2.2]
  obtain ⟨h1,h2,h3,h4⟩:=h
  obtain ⟨hm1,hm2⟩:=mul_bd h1 h2 h3 h4
  go_enter Tryz.func72,Tryz.ntmps72
  go_wp2_with (first | (go_at_call 71;first | (refine (okI_in _ _ (by omega) (by omega)).mono ?_;rintro e w' ⟨rfl,rfl⟩) | (refine (okI_out _ _ (by omega)).mono ?_;rintro e w' ⟨rfl,rfl⟩)) | (go_at_call 117;refine (times _ _ _ (by omega) (by omega) (by omega) (by omega)).mono ?_;rintro e w' ⟨rfl,rfl⟩))
  go_ret
  exact ⟨rfl,rfl⟩
 ·rw [fMul_out h]
  have h':a<0∨100<a∨(0≤a∧a≤100∧b<0)∨(0≤a∧a≤100∧100<b):=by omega
  clear h
  rcases h' with h | h | ⟨h1,h2,h3⟩ | ⟨h1,h2,h3⟩
  all_goals
   go_enter Tryz.func72,Tryz.ntmps72
   go_wp2_with (first | (go_at_call 71;first | (refine (okI_in _ _ (by omega) (by omega)).mono ?_;rintro e w' ⟨rfl,rfl⟩) | (refine (okI_out _ _ (by omega)).mono ?_;rintro e w' ⟨rfl,rfl⟩)) | (go_at_call 117;refine (times _ _ _ (by omega) (by omega) (by omega) (by omega)).mono ?_;rintro e w' ⟨rfl,rfl⟩))
   go_ret
   exact ⟨rfl,rfl⟩
theorem mulS (a b:Int) (w:World) :
  Calls Tryz.prog 175 #[.int .i64 a,.int .i64 b] w fun e w'=>e=.returned (.int .i64 (fMul a b))∧w'=w:=by
 by_cases h:0≤a∧a≤100∧0≤b∧b≤100
 ·rw [fMul_in h.1 h.2.1 h.2.2.1 h.2.2.2]
  obtain ⟨h1,h2,h3,h4⟩:=h
  obtain ⟨hm1,hm2⟩:=mul_bd h1 h2 h3 h4
  go_enter Tryz.func175,Tryz.ntmps175
  go_wp2_with (first | (go_at_call 156;first | (refine (okS_in _ _ (by omega) (by omega)).mono ?_;rintro e w' ⟨rfl,rfl⟩) | (refine (okS_out _ _ (by omega)).mono ?_;rintro e w' ⟨rfl,rfl⟩)))
  go_ret
  exact ⟨rfl,rfl⟩
 ·rw [fMul_out h]
  have h':a<0∨100<a∨(0≤a∧a≤100∧b<0)∨(0≤a∧a≤100∧100<b):=by omega
  clear h
  rcases h' with h | h | ⟨h1,h2,h3⟩ | ⟨h1,h2,h3⟩
  all_goals
   go_enter Tryz.func175,Tryz.ntmps175
   go_wp2_with (first | (go_at_call 156;first | (refine (okS_in _ _ (by omega) (by omega)).mono ?_;rintro e w' ⟨rfl,rfl⟩) | (refine (okS_out _ _ (by omega)).mono ?_;rintro e w' ⟨rfl,rfl⟩)))
   go_ret
   exact ⟨rfl,rfl⟩
set_option maxHeartbeats 400000 in
theorem power (a n:Int) (w:World) (h1:0≤a) (h2:a≤100) (h3:0≤n) (h4:n≤1000) :
  Calls Tryz.prog 158 #[.int .i64 a,.int .i64 n] w fun e w'=>e=.returned (.int .i64 (pw a n.toNat))∧w'=w:=by
 go_enter Tryz.func158,Tryz.ntmps158
 go_wp2
 go_loop [0,1,5] (fun a' n' r=>∃ b m x:Int,a'=.int .i64 b∧n'=.int .i64 m∧r=.int .i64 x∧0≤b∧b≤100∧0≤m∧m≤1000∧0≤x∧x≤100∧PwInv a n.toNat b m x) (fun _ n' _=>(intOf n').toNat)
 case atStart=>exact ⟨a,n,1,rfl,rfl,rfl,h1,h2,h3,h4,by omega,by omega,pwInv_start a n⟩
 case round=>
  obtain ⟨b,m,x,rfl,rfl,rfl,b1,b2,m1,m2,x1,x2,hI⟩:=hrel
  by_cases hm:0<m
  ·obtain ⟨s1,s2⟩:=mul_bd b1 b2 b1 b2
   by_cases ho:m % 2=1
   ·obtain ⟨t1,t2⟩:=mul_bd x1 x2 b1 b2
    have hI':=pwInv_odd hI hm ho
    clear hI
    have hb:(m % 2 == 1)=true:=by simp [ho]
    clear ho
    go_wp2
    go_round
    case rel=>exact ⟨_,_,_,rfl,rfl,rfl,by omega,by omega,by omega,by omega,by omega,by omega,hI'⟩
    case measure=>simp [intOf];omega
   ·have hI':=pwInv_even hI hm (by omega)
    clear hI
    have hb:(m % 2 == 1)=false:=by simp [ho]
    clear ho
    go_wp2
    go_round
    case rel=>exact ⟨_,_,_,rfl,rfl,rfl,by omega,by omega,by omega,by omega,by omega,by omega,hI'⟩
    case measure=>simp [intOf];omega
  ·have e:m=0:=by omega
   subst e
   go_wp2
   go_ret
   exact ⟨ret_int (pwInv_end hI x1 x2),rfl⟩
set_option maxHeartbeats 400000 in
theorem powS (a n:Int) (w:World) :
  Calls Tryz.prog 130 #[.int .i64 a,.int .i64 n] w fun e w'=>e=.returned (.int .i64 (fPow a n))∧w'=w:=by
 by_cases h:0≤a∧a≤100∧0≤n∧n≤1000
 ·rw [fPow_in h.1 h.2.1 h.2.2.1 h.2.2.2]
  obtain ⟨h1,h2,h3,h4⟩:=h
  go_enter Tryz.func130,Tryz.ntmps130
  go_wp2_with (first | (go_at_call 156;first | (refine (okS_in _ _ (by omega) (by omega)).mono ?_;rintro e w' ⟨rfl,rfl⟩) | (refine (okS_out _ _ (by omega)).mono ?_;rintro e w' ⟨rfl,rfl⟩)) | (go_at_call 39;first | (refine (inS_in _ _ _ _ (by omega) (by omega)).mono ?_;rintro e w' ⟨rfl,rfl⟩) | (refine (inS_out _ _ _ _ (by omega)).mono ?_;rintro e w' ⟨rfl,rfl⟩)))
  go_loop [5,6] (fun x i=>∃ k:Nat,(k:Int)≤n∧i=.int .i64 k∧x=.int .i64 (pw a k)) (fun _ i=>(n - intOf i).toNat)
  case atStart=>exact ⟨0,by omega,rfl,rfl⟩
  case round=>
   obtain ⟨k,hk,rfl,rfl⟩:=hrel
   obtain ⟨p1,p2⟩:=pw_bd a k
   by_cases hlt:(k:Int)<n
   ·obtain ⟨t1,t2⟩:=mul_bd p1 p2 h1 h2
    go_wp2
    go_round
    case rel=>exact ⟨k+1,by omega,by go_num,rfl⟩
    case measure=>simp [intOf];omega
   ·go_wp2
    go_ret
    exact ⟨ret_int (by rw [show n.toNat=k by omega]),rfl⟩
 ·rw [fPow_out h]
  have h':a<0∨100<a∨(0≤a∧a≤100∧n<0)∨(0≤a∧a≤100∧1000<n):=by omega
  clear h
  rcases h' with h | h | ⟨h1,h2,h3⟩ | ⟨h1,h2,h3⟩
  all_goals
   go_enter Tryz.func130,Tryz.ntmps130
   go_wp2_with (first | (go_at_call 156;first | (refine (okS_in _ _ (by omega) (by omega)).mono ?_;rintro e w' ⟨rfl,rfl⟩) | (refine (okS_out _ _ (by omega)).mono ?_;rintro e w' ⟨rfl,rfl⟩)) | (go_at_call 39;first | (refine (inS_in _ _ _ _ (by omega) (by omega)).mono ?_;rintro e w' ⟨rfl,rfl⟩) | (refine (inS_out _ _ _ _ (by omega)).mono ?_;rintro e w' ⟨rfl,rfl⟩)))
   go_ret
   exact ⟨rfl,rfl⟩
theorem inverse (a:Int) (w:World) (h1:0≤a) (h2:a≤100) :
  Calls Tryz.prog 134 #[.int .i64 a] w fun e w'=>e=.returned (.int .i64 (iv a))∧w'=w:=by
 go_enter Tryz.func134,Tryz.ntmps134
 go_wp2_with (first | (go_at_call 158;refine (power _ _ _ (by omega) (by omega) (by omega) (by omega)).mono ?_;rintro e w' ⟨rfl,rfl⟩))
 go_ret
 exact ⟨rfl,rfl⟩
theorem invI (a:Int) (w:World) :
  Calls Tryz.prog 94 #[.int .i64 a] w fun e w'=>e=.returned (.int .i64 (fInv a))∧w'=w:=by
 by_cases h:0≤a∧a≤100
 ·rw [fInv_in h.1 h.2]
  obtain ⟨h1,h2⟩:=h
  go_enter Tryz.func94,Tryz.ntmps94
  go_wp2_with (first | (go_at_call 71;first | (refine (okI_in _ _ (by omega) (by omega)).mono ?_;rintro e w' ⟨rfl,rfl⟩) | (refine (okI_out _ _ (by omega)).mono ?_;rintro e w' ⟨rfl,rfl⟩)) | (go_at_call 134;refine (inverse _ _ (by omega) (by omega)).mono ?_;rintro e w' ⟨rfl,rfl⟩))
  go_ret
  exact ⟨rfl,rfl⟩
 ·rw [fInv_out h]
  have h':a<0∨100<a:=by omega
  clear h
  rcases h' with h | h
  all_goals
   go_enter Tryz.func94,Tryz.ntmps94
   go_wp2_with (first | (go_at_call 71;first | (refine (okI_in _ _ (by omega) (by omega)).mono ?_;rintro e w' ⟨rfl,rfl⟩) | (refine (okI_out _ _ (by omega)).mono ?_;rintro e w' ⟨rfl,rfl⟩)) | (go_at_call 134;refine (inverse _ _ (by omega) (by omega)).mono ?_;rintro e w' ⟨rfl,rfl⟩))
   go_ret
   exact ⟨rfl,rfl⟩
theorem invS (a:Int) (w:World) :
  Calls Tryz.prog 89 #[.int .i64 a] w fun e w'=>e=.returned (.int .i64 (fInv a))∧w'=w:=by
 go_enter Tryz.func89,Tryz.ntmps89
 go_wp2_with (first | (go_at_call 130;refine (powS _ _ _).mono ?_;rintro e w' ⟨rfl,rfl⟩))
 go_ret
 exact ⟨ret_int (fPow_iv a),rfl⟩
theorem divI (a b:Int) (w:World) :
  Calls Tryz.prog 167 #[.int .i64 a,.int .i64 b] w fun e w'=>e=.returned (.int .i64 (fDiv a b))∧w'=w:=by
 by_cases h:0≤a∧a≤100∧0≤b∧b≤100
 ·rw [fDiv_in h.1 h.2.1 h.2.2.1 h.2.2.2]
  obtain ⟨h1,h2,h3,h4⟩:=h
  obtain ⟨i1,i2⟩:=iv_bd b
  go_enter Tryz.func167,Tryz.ntmps167
  go_wp2_with (first | (go_at_call 71;first | (refine (okI_in _ _ (by omega) (by omega)).mono ?_;rintro e w' ⟨rfl,rfl⟩) | (refine (okI_out _ _ (by omega)).mono ?_;rintro e w' ⟨rfl,rfl⟩)) | (go_at_call 134;refine (inverse _ _ (by omega) (by omega)).mono ?_;rintro e w' ⟨rfl,rfl⟩) | (go_at_call 117;refine (times _ _ _ (by omega) (by omega) (by omega) (by omega)).mono ?_;rintro e w' ⟨rfl,rfl⟩))
  go_ret
  exact ⟨rfl,rfl⟩
 ·rw [fDiv_out h]
  have h':a<0∨100<a∨(0≤a∧a≤100∧b<0)∨(0≤a∧a≤100∧100<b):=by omega
  clear h
  rcases h' with h | h | ⟨h1,h2,h3⟩ | ⟨h1,h2,h3⟩
  all_goals
   go_enter Tryz.func167,Tryz.ntmps167
   go_wp2_with (first | (go_at_call 71;first | (refine (okI_in _ _ (by omega) (by omega)).mono ?_;rintro e w' ⟨rfl,rfl⟩) | (refine (okI_out _ _ (by omega)).mono ?_;rintro e w' ⟨rfl,rfl⟩)) | (go_at_call 134;refine (inverse _ _ (by omega) (by omega)).mono ?_;rintro e w' ⟨rfl,rfl⟩) | (go_at_call 117;refine (times _ _ _ (by omega) (by omega) (by omega) (by omega)).mono ?_;rintro e w' ⟨rfl,rfl⟩))
   go_ret
   exact ⟨rfl,rfl⟩
theorem countI_in (a:Int) (w:World) (h1:0≤a) (h2:a≤60) :
  Calls Tryz.prog 205 #[.int .i64 a] w fun e w'=>e=.returned (.bool true)∧w'=w:=by
 have d1:decide (a≤60)=true:=decide_eq_true h2
 go_enter Tryz.func205,Tryz.ntmps205
 go_wp2
 go_ret
 exact ⟨rfl,rfl⟩
theorem countI_out (a:Int) (w:World) (h:a<0∨60<a) :
  Calls Tryz.prog 205 #[.int .i64 a] w fun e w'=>e=.returned (.bool false)∧w'=w:=by
 rcases h with h | h
 ·go_enter Tryz.func205,Tryz.ntmps205
  go_wp2
  go_ret
  exact ⟨rfl,rfl⟩
 ·have d1:decide (a≤60)=false:=decide_eq_false (by omega)
  go_enter Tryz.func205,Tryz.ntmps205
  go_wp2
  go_ret
  exact ⟨rfl,rfl⟩
set_option maxHeartbeats 400000 in
theorem fall (n k:Int) (w:World) (h1:0≤n) (h2:n≤60) (h3:0≤k) (h4:k≤60) :
  Calls Tryz.prog 206 #[.int .i64 n,.int .i64 k] w fun e w'=>e=.returned (.int .i64 (fl n k.toNat))∧w'=w:=by
 go_enter Tryz.func206,Tryz.ntmps206
 go_wp2
 go_loop [0,5,7] (fun a' r i=>∃ j:Nat,(j:Int)≤k∧(j:Int)≤n∧a'=.int .i64 (n - j)∧r=.int .i64 (fl n j)∧i=.int .i64 j) (fun _ _ i=>(k - intOf i).toNat)
 case atStart=>exact ⟨0,by omega,by omega,by simp,rfl,rfl⟩
 case round=>
  obtain ⟨j,hj,hjn,rfl,rfl,rfl⟩:=hrel
  obtain ⟨p1,p2⟩:=fl_bd n j
  by_cases hlt:(j:Int)<k
  ·by_cases hz:n - (j:Int)=0
   ·have hb:(n - (j:Int) == 0)=true:=by simp [hz]
    have hf:Hid (fl n k.toNat=0):=fl_zero n j k.toNat (by omega) (by omega)
    clear hz
    go_wp2
    go_ret
    exact ⟨ret_int hf.out.symm,rfl⟩
   ·have hb:(n - (j:Int) == 0)=false:=by simp [hz]
    clear hz
    have hp:0<n - (j:Int):=by have:=of_eq_false_beq hb;omega
    obtain ⟨t1,t2⟩:=mul_bd p1 p2 (show (0:Int)≤n - j by omega) (show n - (j:Int)≤100 by omega)
    have hs:Hid (fl n (j+1)=fl n j * (n - j) % 101):=fl_step n j hjn h2
    go_wp2
    go_round
    case rel=>exact ⟨j+1,by omega,by omega,congrArg (Value.int .i64) (by omega),by rw [hs.out];rfl,by go_num⟩
    case measure=>simp [intOf];omega
  ·go_wp2
   go_ret
   exact ⟨ret_int (by rw [show k.toNat=j by omega]),rfl⟩
set_option maxHeartbeats 400000 in
theorem fallS (n k:Int) (w:World) :
  Calls Tryz.prog 164 #[.int .i64 n,.int .i64 k] w fun e w'=>e=.returned (.int .i64 (fFall n k))∧w'=w:=by
 by_cases h:0≤n∧n≤60∧0≤k∧k≤60
 ·rw [fFall_in h.1 h.2.1 h.2.2.1 h.2.2.2]
  obtain ⟨h1,h2,h3,h4⟩:=h
  go_enter Tryz.func164,Tryz.ntmps164
  go_wp2_with (first | (go_at_call 39;first | (refine (inS_in _ _ _ _ (by omega) (by omega)).mono ?_;rintro e w' ⟨rfl,rfl⟩) | (refine (inS_out _ _ _ _ (by omega)).mono ?_;rintro e w' ⟨rfl,rfl⟩)))
  go_loop [5,6] (fun x i=>∃ j:Nat,(j:Int)≤k∧i=.int .i64 j∧x=.int .i64 (fl n j)) (fun _ i=>(k - intOf i).toNat)
  case atStart=>exact ⟨0,by omega,rfl,rfl⟩
  case round=>
   obtain ⟨j,hj,rfl,rfl⟩:=hrel
   obtain ⟨p1,p2⟩:=fl_bd n j
   by_cases hlt:(j:Int)<k
   ·obtain ⟨t1,t2⟩:=mul_bd p1 p2 (show (0:Int)≤(n - j) % 101 by omega) (show (n - (j:Int)) % 101≤100 by omega)
    go_wp2
    go_round
    case rel=>exact ⟨j+1,by omega,by go_num,rfl⟩
    case measure=>simp [intOf];omega
   ·go_wp2
    go_ret
    exact ⟨ret_int (by rw [show k.toNat=j by omega]),rfl⟩
 ·rw [fFall_out h]
  have h':n<0∨60<n∨(0≤n∧n≤60∧k<0)∨(0≤n∧n≤60∧60<k):=by omega
  clear h
  rcases h' with h | h | ⟨h1,h2,h3⟩ | ⟨h1,h2,h3⟩
  all_goals
   go_enter Tryz.func164,Tryz.ntmps164
   go_wp2_with (first | (go_at_call 39;first | (refine (inS_in _ _ _ _ (by omega) (by omega)).mono ?_;rintro e w' ⟨rfl,rfl⟩) | (refine (inS_out _ _ _ _ (by omega)).mono ?_;rintro e w' ⟨rfl,rfl⟩)))
   go_ret
   exact ⟨rfl,rfl⟩
theorem fallI (n k:Int) (w:World) :
  Calls Tryz.prog 194 #[.int .i64 n,.int .i64 k] w fun e w'=>e=.returned (.int .i64 (fFall n k))∧w'=w:=by
 by_cases h:0≤n∧n≤60∧0≤k∧k≤60
 ·rw [fFall_in h.1 h.2.1 h.2.2.1 h.2.2.2]
  obtain ⟨h1,h2,h3,h4⟩:=h
  go_enter Tryz.func194,Tryz.ntmps194
  go_wp2_with (first | (go_at_call 205;first | (refine (countI_in _ _ (by omega) (by omega)).mono ?_;rintro e w' ⟨rfl,rfl⟩) | (refine (countI_out _ _ (by omega)).mono ?_;rintro e w' ⟨rfl,rfl⟩)) | (go_at_call 206;refine (fall _ _ _ (by omega) (by omega) (by omega) (by omega)).mono ?_;rintro e w' ⟨rfl,rfl⟩))
  go_ret
  exact ⟨rfl,rfl⟩
 ·rw [fFall_out h]
  have h':n<0∨60<n∨(0≤n∧n≤60∧k<0)∨(0≤n∧n≤60∧60<k):=by omega
  clear h
  rcases h' with h | h | ⟨h1,h2,h3⟩ | ⟨h1,h2,h3⟩
  all_goals
   go_enter Tryz.func194,Tryz.ntmps194
   go_wp2_with (first | (go_at_call 205;first | (refine (countI_in _ _ (by omega) (by omega)).mono ?_;rintro e w' ⟨rfl,rfl⟩) | (refine (countI_out _ _ (by omega)).mono ?_;rintro e w' ⟨rfl,rfl⟩)) | (go_at_call 206;refine (fall _ _ _ (by omega) (by omega) (by omega) (by omega)).mono ?_;rintro e w' ⟨rfl,rfl⟩))
   go_ret
   exact ⟨rfl,rfl⟩
set_option maxRecDepth 100000 in
theorem chooseI (n k:Int) (w:World) :
  Calls Tryz.prog 193 #[.int .i64 n,.int .i64 k] w fun e w'=>e=.returned (.int .i64 (fChoose n k))∧w'=w:=by
 by_cases h:0≤n∧n≤60∧0≤k∧k≤n
 ·rw [fChoose_in h.1 h.2.1 h.2.2.1 h.2.2.2]
  obtain ⟨h1,h2,h3,h4⟩:=h
  obtain ⟨p1,p2⟩:=fl_bd n k.toNat
  obtain ⟨q1,q2⟩:=fl_bd k k.toNat
  obtain ⟨r1,r2⟩:=iv_bd (fl k k.toNat)
  have d1:decide (n<k)=false:=decide_eq_false (by omega)
  go_enter Tryz.func193,Tryz.ntmps193
  go_wp2_with (first | (go_at_call 205;first | (refine (countI_in _ _ (by omega) (by omega)).mono ?_;rintro e w' ⟨rfl,rfl⟩) | (refine (countI_out _ _ (by omega)).mono ?_;rintro e w' ⟨rfl,rfl⟩)) | (go_at_call 206;refine (fall _ _ _ (by omega) (by omega) (by omega) (by omega)).mono ?_;rintro e w' ⟨rfl,rfl⟩) | (go_at_call 134;refine (inverse _ _ (by omega) (by omega)).mono ?_;rintro e w' ⟨rfl,rfl⟩) | (go_at_call 117;refine (times _ _ _ (by omega) (by omega) (by omega) (by omega)).mono ?_;rintro e w' ⟨rfl,rfl⟩))
  go_ret
  exact ⟨rfl,rfl⟩
 ·rw [fChoose_out h]
  have h':n<0∨60<n∨(0≤n∧n≤60∧k<0)∨(0≤n∧n≤60∧0≤k∧n<k):=by omega
  clear h
  rcases h' with h | h | ⟨h1,h2,h3⟩ | ⟨h1,h2,h3,h4⟩
  all_goals
   go_enter Tryz.func193,Tryz.ntmps193
   go_wp2_with (first | (go_at_call 205;first | (refine (countI_in _ _ (by omega) (by omega)).mono ?_;rintro e w' ⟨rfl,rfl⟩) | (refine (countI_out _ _ (by omega)).mono ?_;rintro e w' ⟨rfl,rfl⟩)) | (go_at_call 206;refine (fall _ _ _ (by omega) (by omega) (by omega) (by omega)).mono ?_;rintro e w' ⟨rfl,rfl⟩))
   go_ret
   exact ⟨rfl,rfl⟩
theorem chooseS (n k:Int) (w:World) :
  Calls Tryz.prog 163 #[.int .i64 n,.int .i64 k] w fun e w'=>e=.returned (.int .i64 (fChoose n k))∧w'=w:=by
 by_cases h:0≤n∧n≤60∧0≤k∧k≤n
 ·rw [← fChoose_mul h.1 h.2.1 h.2.2.1 h.2.2.2]
  obtain ⟨h1,h2,h3,h4⟩:=h
  go_enter Tryz.func163,Tryz.ntmps163
  go_wp2_with (first | (go_at_call 39;first | (refine (inS_in _ _ _ _ (by omega) (by omega)).mono ?_;rintro e w' ⟨rfl,rfl⟩) | (refine (inS_out _ _ _ _ (by omega)).mono ?_;rintro e w' ⟨rfl,rfl⟩)) | (go_at_call 164;refine (fallS _ _ _).mono ?_;rintro e w' ⟨rfl,rfl⟩) | (go_at_call 89;refine (invS _ _).mono ?_;rintro e w' ⟨rfl,rfl⟩) | (go_at_call 175;refine (mulS _ _ _).mono ?_;rintro e w' ⟨rfl,rfl⟩))
  go_ret
  exact ⟨rfl,rfl⟩
 ·rw [fChoose_out h]
  have h':n<0∨60<n∨(0≤n∧n≤60∧k<0)∨(0≤n∧n≤60∧0≤k∧n<k):=by omega
  clear h
  rcases h' with h | h | ⟨h1,h2,h3⟩ | ⟨h1,h2,h3,h4⟩
  all_goals
   go_enter Tryz.func163,Tryz.ntmps163
   go_wp2_with (first | (go_at_call 39;first | (refine (inS_in _ _ _ _ (by omega) (by omega)).mono ?_;rintro e w' ⟨rfl,rfl⟩) | (refine (inS_out _ _ _ _ (by omega)).mono ?_;rintro e w' ⟨rfl,rfl⟩)))
   go_ret
   exact ⟨rfl,rfl⟩
end Go.Proofs.YtdidlcjhodejjaaGreat
namespace Go.Proofs.YtdidlcjhodejjaaGreat
open Go.RowKit
set_option linter.unusedVariables false
structure M where
 x:Int
 y:Int
 d:Int
 e:Int
def M.ok (m:M):Bool:=decide (0≤m.x∧m.x≤15∧0≤m.y∧m.y≤15∧0≤m.d∧m.d≤15∧0≤m.e∧m.e≤15)
theorem M.ok_iff {m:M}:m.ok=true ↔ 0≤m.x∧m.x≤15∧0≤m.y∧m.y≤15∧0≤m.d∧m.d≤15∧0≤m.e∧m.e≤15:=by simp [M.ok]
theorem M.ok_not {m:M}:m.ok=false ↔ ¬ (0≤m.x∧m.x≤15∧0≤m.y∧m.y≤15∧0≤m.d∧m.d≤15∧0≤m.e∧m.e≤15):=by
 rw [← M.ok_iff];simp
def M.deg (m:M):Int:=if m.ok then m.x+m.y+m.d+m.e else 0
def c3 (a b:Int):Int:=if a<b then -1 else if b<a then 1 else 0
def M.lex (a b:M):Int:=if a.d≠b.d then c3 a.d b.d else if a.e≠b.e then c3 a.e b.e else if a.x≠b.x then c3 a.x b.x else c3 a.y b.y
def M.ord (o:Int) (a b:M):Int:=
 if o=1∧a.deg≠b.deg then c3 a.deg b.deg else if o=3∧a.d+a.x≠b.d+b.x then c3 (a.d+a.x) (b.d+b.x) else M.lex a b
def M.cmp (o:Int) (a b:M):Int:=if (1≤o∧o≤3)∧a.ok=true∧b.ok=true then M.ord o a b else 0
def M.zero:M:=⟨0,0,0,0⟩
def M.sum (a b:M):M:=⟨a.x+b.x,a.y+b.y,a.d+b.d,a.e+b.e⟩
def M.mul (a b:M):M × Bool:=if a.ok=true∧b.ok=true∧(a.sum b).ok=true then (a.sum b,true) else (M.zero,false)
def M.dvd (a b:M):Bool:=a.ok && b.ok && decide (a.x≤b.x∧a.y≤b.y∧a.d≤b.d∧a.e≤b.e)
def M.diff (b a:M):M:=⟨b.x - a.x,b.y - a.y,b.d - a.d,b.e - a.e⟩
def M.over (b a:M):M × Bool:=if a.dvd b=true then (b.diff a,true) else (M.zero,false)
def mx (a b:Int):Int:=if b<a then a else b
def M.both (a b:M):M:=if a.ok=true∧b.ok=true then ⟨mx a.x b.x,mx a.y b.y,mx a.d b.d,mx a.e b.e⟩ else M.zero
theorem Hid.mk' {p:Prop} (h:p):Hid p:=h
theorem bcell {W w1:World} (hb:Below W.heap.size W w1):(∀ b o,b<W.heap.size→w1.cell? ⟨b,o,none⟩=W.cell? ⟨b,o,none⟩)∧(∀ b o,b<W.heap.size→w1.frozen? ⟨b,o,none⟩=W.frozen? ⟨b,o,none⟩):=
 ⟨fun b o h=>hb.cell (p:=⟨b,o,none⟩) h,fun b o h=>hb.frozen (p:=⟨b,o,none⟩) h⟩
set_option maxHeartbeats 400000 in
theorem monOkS (x y d e:Int) (w:World) :
  Calls Tryz.prog 108 #[.agg #[.int .i64 x,.int .i64 y,.int .i64 d,.int .i64 e]] w fun r w'=>r=.returned (.bool (M.ok ⟨x,y,d,e⟩))∧Below w.heap.size w w':=by
 by_cases hx:0≤x∧x≤15
 ·by_cases hy:0≤y∧y≤15
  ·by_cases hd:0≤d∧d≤15
   ·by_cases he:0≤e∧e≤15
    ·rw [M.ok_iff.2 ⟨hx.1,hx.2,hy.1,hy.2,hd.1,hd.2,he.1,he.2⟩]
     obtain ⟨x1,x2⟩:=hx
     obtain ⟨y1,y2⟩:=hy
     obtain ⟨d1,d2⟩:=hd
     obtain ⟨e1,e2⟩:=he
     go_enter Tryz.func108,Tryz.ntmps108
     go_wp2_with (first | (go_at_call 39;first | (refine (inS_in _ _ _ _ (by omega) (by omega)).mono ?_;rintro e w' ⟨rfl,rfl⟩) | (refine (inS_out _ _ _ _ (by omega)).mono ?_;rintro e w' ⟨rfl,rfl⟩)))
     go_ret
     exact ⟨rfl,(Below.refl _ _).alloc (Nat.le_refl _) _⟩
    ·rw [M.ok_not.2 (fun h=>he ⟨h.2.2.2.2.2.2.1,h.2.2.2.2.2.2.2⟩)]
     go_enter Tryz.func108,Tryz.ntmps108
     go_wp2_with (first | (go_at_call 39;first | (refine (inS_in _ _ _ _ (by omega) (by omega)).mono ?_;rintro e w' ⟨rfl,rfl⟩) | (refine (inS_out _ _ _ _ (by omega)).mono ?_;rintro e w' ⟨rfl,rfl⟩)))
     go_ret
     exact ⟨rfl,(Below.refl _ _).alloc (Nat.le_refl _) _⟩
   ·rw [M.ok_not.2 (fun h=>hd ⟨h.2.2.2.2.1,h.2.2.2.2.2.1⟩)]
    go_enter Tryz.func108,Tryz.ntmps108
    go_wp2_with (first | (go_at_call 39;first | (refine (inS_in _ _ _ _ (by omega) (by omega)).mono ?_;rintro e w' ⟨rfl,rfl⟩) | (refine (inS_out _ _ _ _ (by omega)).mono ?_;rintro e w' ⟨rfl,rfl⟩)))
    go_ret
    exact ⟨rfl,(Below.refl _ _).alloc (Nat.le_refl _) _⟩
  ·rw [M.ok_not.2 (fun h=>hy ⟨h.2.2.1,h.2.2.2.1⟩)]
   go_enter Tryz.func108,Tryz.ntmps108
   go_wp2_with (first | (go_at_call 39;first | (refine (inS_in _ _ _ _ (by omega) (by omega)).mono ?_;rintro e w' ⟨rfl,rfl⟩) | (refine (inS_out _ _ _ _ (by omega)).mono ?_;rintro e w' ⟨rfl,rfl⟩)))
   go_ret
   exact ⟨rfl,(Below.refl _ _).alloc (Nat.le_refl _) _⟩
 ·rw [M.ok_not.2 (fun h=>hx ⟨h.1,h.2.1⟩)]
  go_enter Tryz.func108,Tryz.ntmps108
  go_wp2_with (first | (go_at_call 39;first | (refine (inS_in _ _ _ _ (by omega) (by omega)).mono ?_;rintro e w' ⟨rfl,rfl⟩) | (refine (inS_out _ _ _ _ (by omega)).mono ?_;rintro e w' ⟨rfl,rfl⟩)))
  go_ret
  exact ⟨rfl,(Below.refl _ _).alloc (Nat.le_refl _) _⟩
theorem monOkS_of {x y d e:Int} {b:Bool} (h:M.ok ⟨x,y,d,e⟩=b) (w:World) :
  Calls Tryz.prog 108 #[.agg #[.int .i64 x,.int .i64 y,.int .i64 d,.int .i64 e]] w fun r w'=>r=.returned (.bool b)∧Below w.heap.size w w':=by
 rw [← h];exact monOkS x y d e w
theorem monDegS (x y d e:Int) (w:World) :
  Calls Tryz.prog 126 #[.agg #[.int .i64 x,.int .i64 y,.int .i64 d,.int .i64 e]] w fun r w'=>r=.returned (.int .i64 (M.deg ⟨x,y,d,e⟩))∧Below w.heap.size w w':=by
 cases h:M.ok ⟨x,y,d,e⟩
 ·have hd:M.deg ⟨x,y,d,e⟩=0:=by simp [M.deg,h]
  rw [hd]
  go_enter Tryz.func126,Tryz.ntmps126
  go_wp2_with fail
  refine (monOkS _ _ _ _ _).mono ?_
  rw [h]
  rintro r w1 ⟨rfl,hb⟩
  go_wp2
  go_ret
  exact ⟨rfl,(Below.refl _ _).trans (((Below.refl _ _).alloc (Nat.le_refl _) _).trans (hb.mono (by simp)))⟩
 ·have hd:M.deg ⟨x,y,d,e⟩=x+y+d+e:=by simp [M.deg,h]
  rw [hd]
  obtain ⟨x1,x2,y1,y2,d1,d2,e1,e2⟩:=M.ok_iff.1 h
  simp only at x1 x2 y1 y2 d1 d2 e1 e2
  go_enter Tryz.func126,Tryz.ntmps126
  go_wp2_with fail
  refine (monOkS _ _ _ _ _).mono ?_
  rw [h]
  rintro r w1 ⟨rfl,hb⟩
  obtain ⟨hc,hf⟩:=bcell hb
  go_wp2
  go_ret
  exact ⟨rfl,((Below.refl _ _).alloc (Nat.le_refl _) _).trans (hb.mono (by simp))⟩
theorem cmpS (a b:Int) (w:World) :
  Calls Tryz.prog 127 #[.int .i64 a,.int .i64 b] w fun r w'=>r=.returned (.int .i64 (c3 a b))∧w'=w:=by
 by_cases h1:a<b
 ·have e1:c3 a b=-1:=by simp [c3,h1]
  rw [e1]
  go_enter Tryz.func127,Tryz.ntmps127
  go_wp2
  go_ret
  exact ⟨rfl,rfl⟩
 ·by_cases h2:b<a
  ·have e1:c3 a b=1:=by simp [c3,h1,h2]
   rw [e1]
   go_enter Tryz.func127,Tryz.ntmps127
   go_wp2
   go_ret
   exact ⟨rfl,rfl⟩
  ·have e1:c3 a b=0:=by simp [c3,h1,h2]
   rw [e1]
   go_enter Tryz.func127,Tryz.ntmps127
   go_wp2
   go_ret
   exact ⟨rfl,rfl⟩
set_option maxHeartbeats 400000 in
theorem lexS (x y d e x' y' d' e':Int) (w:World) :
  Calls Tryz.prog 128 #[.agg #[.int .i64 x,.int .i64 y,.int .i64 d,.int .i64 e],.agg #[.int .i64 x',.int .i64 y',.int .i64 d',.int .i64 e']] w fun r w'=>r=.returned (.int .i64 (M.lex ⟨x,y,d,e⟩ ⟨x',y',d',e'⟩))∧Below w.heap.size w w':=by
 by_cases hd:d=d'
 ·by_cases he:e=e'
  ·by_cases hx:x=x'
   ·have e1:M.lex ⟨x,y,d,e⟩ ⟨x',y',d',e'⟩=c3 y y':=by simp [M.lex,hd,he,hx]
    rw [e1]
    have b1:(d != d')=false:=by simp [hd]
    have b2:(e != e')=false:=by simp [he]
    have b3:(x != x')=false:=by simp [hx]
    clear hd he hx e1
    go_enter Tryz.func128,Tryz.ntmps128
    go_wp2_with (first | (go_at_call 127;refine (cmpS _ _ _).mono ?_;rintro r w' ⟨rfl,rfl⟩))
    go_ret
    exact ⟨rfl,((Below.refl _ _).alloc (Nat.le_refl _) _).alloc (by simp) _⟩
   ·have e1:M.lex ⟨x,y,d,e⟩ ⟨x',y',d',e'⟩=c3 x x':=by simp [M.lex,hd,he,hx]
    rw [e1]
    have b1:(d != d')=false:=by simp [hd]
    have b2:(e != e')=false:=by simp [he]
    have b3:(x != x')=true:=by simp [hx]
    clear hd he hx e1
    go_enter Tryz.func128,Tryz.ntmps128
    go_wp2_with (first | (go_at_call 127;refine (cmpS _ _ _).mono ?_;rintro r w' ⟨rfl,rfl⟩))
    go_ret
    exact ⟨rfl,((Below.refl _ _).alloc (Nat.le_refl _) _).alloc (by simp) _⟩
  ·have e1:M.lex ⟨x,y,d,e⟩ ⟨x',y',d',e'⟩=c3 e e':=by simp [M.lex,hd,he]
   rw [e1]
   have b1:(d != d')=false:=by simp [hd]
   have b2:(e != e')=true:=by simp [he]
   clear hd he e1
   go_enter Tryz.func128,Tryz.ntmps128
   go_wp2_with (first | (go_at_call 127;refine (cmpS _ _ _).mono ?_;rintro r w' ⟨rfl,rfl⟩))
   go_ret
   exact ⟨rfl,((Below.refl _ _).alloc (Nat.le_refl _) _).alloc (by simp) _⟩
 ·have e1:M.lex ⟨x,y,d,e⟩ ⟨x',y',d',e'⟩=c3 d d':=by simp [M.lex,hd]
  rw [e1]
  have b1:(d != d')=true:=by simp [hd]
  clear hd e1
  go_enter Tryz.func128,Tryz.ntmps128
  go_wp2_with (first | (go_at_call 127;refine (cmpS _ _ _).mono ?_;rintro r w' ⟨rfl,rfl⟩))
  go_ret
  exact ⟨rfl,((Below.refl _ _).alloc (Nat.le_refl _) _).alloc (by simp) _⟩
theorem bel_next {w W W':World} (a:Below w.heap.size w W) (h:Below W.heap.size W W'):Below w.heap.size w W':=a.trans (h.mono a.size)
theorem bel_two (w:World) (A B:Obj):Below w.heap.size w ((w.alloc A).alloc B):=((Below.refl _ _).alloc (Nat.le_refl _) _).alloc (by simp) _
theorem bel_three (w:World) (A B C:Obj):Below w.heap.size w (((w.alloc A).alloc B).alloc C):=(bel_two w A B).alloc (bel_two w A B).size _
theorem bel_set4 {n B:Nat} {a w:World} (h:Below n a w) (hB:n≤B) (u0 u1 u2 u3:Value):Below n a ((((w.setCell ⟨B,0,none⟩ u0).setCell ⟨B,1,none⟩ u1).setCell ⟨B,2,none⟩ u2).setCell ⟨B,3,none⟩ u3):=
 (((h.setCell hB u0).setCell hB u1).setCell hB u2).setCell hB u3
set_option maxHeartbeats 1000000 in
theorem ordS1 (x y d e x' y' d' e':Int) (w:World) :
  Calls Tryz.prog 82 #[.int .i64 1,.agg #[.int .i64 x,.int .i64 y,.int .i64 d,.int .i64 e],.agg #[.int .i64 x',.int .i64 y',.int .i64 d',.int .i64 e']] w fun r w'=>r=.returned (.int .i64 (M.ord 1 ⟨x,y,d,e⟩ ⟨x',y',d',e'⟩))∧Below w.heap.size w w':=by
 by_cases hd:M.deg ⟨x,y,d,e⟩=M.deg ⟨x',y',d',e'⟩
 ·have e1:M.ord 1 ⟨x,y,d,e⟩ ⟨x',y',d',e'⟩=M.lex ⟨x,y,d,e⟩ ⟨x',y',d',e'⟩:=by simp [M.ord,hd]
  rw [e1]
  have b1:(M.deg ⟨x,y,d,e⟩ != M.deg ⟨x',y',d',e'⟩)=false:=by simp [hd]
  clear hd e1
  go_enter Tryz.func82,Tryz.ntmps82
  go_wp2_with fail
  go_region_held3 (fun u=>u.cell? ⟨w.heap.size,0,none⟩=some (.int .i64 x)∧u.cell? ⟨w.heap.size,1,none⟩=some (.int .i64 y)∧u.cell? ⟨w.heap.size,2,none⟩=some (.int .i64 d)∧u.cell? ⟨w.heap.size,3,none⟩=some (.int .i64 e)∧u.cell? ⟨w.heap.size+1,0,none⟩=some (.int .i64 x')∧u.cell? ⟨w.heap.size+1,1,none⟩=some (.int .i64 y')∧u.cell? ⟨w.heap.size+1,2,none⟩=some (.int .i64 d')∧u.cell? ⟨w.heap.size+1,3,none⟩=some (.int .i64 e')) ((go_light;first | (refine ⟨?_,?_,?_,?_,?_,?_,?_,?_⟩ <;> (simp only [(bcell hb4).1 _ _ hz3,(bcell hb4).1 _ _ hy3, *];done)) | (refine ⟨?_,?_,?_,?_,?_,?_,?_,?_⟩ <;> (simp only [(bcell hb3).1 _ _ hz2,(bcell hb3).1 _ _ hy2, *];done)) | (refine ⟨?_,?_,?_,?_,?_,?_,?_,?_⟩ <;> (simp only [(bcell hb2).1 _ _ hz1,(bcell hb2).1 _ _ hy1, *];done)) | (have hc:=(bcell hb1).1;refine ⟨?_,?_,?_,?_,?_,?_,?_,?_⟩ <;> go_simp <;> done) | (refine ⟨?_,?_,?_,?_,?_,?_,?_,?_⟩ <;> go_simp <;> done))) (first | (go_at_call_of 126 (Value.int IntKind.i64 x);refine (monDegS x y d e _).mono ?_;rintro r w1 ⟨rfl,hb1⟩;have hz1:w.heap.size<w1.heap.size:=(by have:=hb1.size;first | omega | (simp at this;omega));have hy1:w.heap.size+1<w1.heap.size:=(by have:=hb1.size;first | omega | (simp at this;omega))) | (go_at_call_of 126 (Value.int IntKind.i64 x');refine (monDegS x' y' d' e' _).mono ?_;rintro r w2 ⟨rfl,hb2⟩;have hz2:w.heap.size<w2.heap.size:=(by have:=hb2.size;first | omega | (simp at this;omega));have hy2:w.heap.size+1<w2.heap.size:=(by have:=hb2.size;first | omega | (simp at this;omega))))
  go_wp2_with (first | (go_at_call 128;refine (lexS x y d e x' y' d' e' _).mono ?_;rintro r w5 ⟨rfl,hb5⟩))
  go_ret
  exact ⟨rfl,bel_next (bel_next (bel_next (bel_two w _ _).drew hb1) hb2) hb5⟩
 ·have e1:M.ord 1 ⟨x,y,d,e⟩ ⟨x',y',d',e'⟩=c3 (M.deg ⟨x,y,d,e⟩) (M.deg ⟨x',y',d',e'⟩):=by simp [M.ord,hd]
  rw [e1]
  have b1:(M.deg ⟨x,y,d,e⟩ != M.deg ⟨x',y',d',e'⟩)=true:=by simp [hd]
  clear hd e1
  go_enter Tryz.func82,Tryz.ntmps82
  go_wp2_with fail
  go_region_held3 (fun u=>u.cell? ⟨w.heap.size,0,none⟩=some (.int .i64 x)∧u.cell? ⟨w.heap.size,1,none⟩=some (.int .i64 y)∧u.cell? ⟨w.heap.size,2,none⟩=some (.int .i64 d)∧u.cell? ⟨w.heap.size,3,none⟩=some (.int .i64 e)∧u.cell? ⟨w.heap.size+1,0,none⟩=some (.int .i64 x')∧u.cell? ⟨w.heap.size+1,1,none⟩=some (.int .i64 y')∧u.cell? ⟨w.heap.size+1,2,none⟩=some (.int .i64 d')∧u.cell? ⟨w.heap.size+1,3,none⟩=some (.int .i64 e')) ((go_light;first | (refine ⟨?_,?_,?_,?_,?_,?_,?_,?_⟩ <;> (simp only [(bcell hb4).1 _ _ hz3,(bcell hb4).1 _ _ hy3, *];done)) | (refine ⟨?_,?_,?_,?_,?_,?_,?_,?_⟩ <;> (simp only [(bcell hb3).1 _ _ hz2,(bcell hb3).1 _ _ hy2, *];done)) | (refine ⟨?_,?_,?_,?_,?_,?_,?_,?_⟩ <;> (simp only [(bcell hb2).1 _ _ hz1,(bcell hb2).1 _ _ hy1, *];done)) | (have hc:=(bcell hb1).1;refine ⟨?_,?_,?_,?_,?_,?_,?_,?_⟩ <;> go_simp <;> done) | (refine ⟨?_,?_,?_,?_,?_,?_,?_,?_⟩ <;> go_simp <;> done))) (first | (go_at_call_of 126 (Value.int IntKind.i64 x);refine (monDegS x y d e _).mono ?_;rintro r w1 ⟨rfl,hb1⟩;have hz1:w.heap.size<w1.heap.size:=(by have:=hb1.size;first | omega | (simp at this;omega));have hy1:w.heap.size+1<w1.heap.size:=(by have:=hb1.size;first | omega | (simp at this;omega))) | (go_at_call_of 126 (Value.int IntKind.i64 x');refine (monDegS x' y' d' e' _).mono ?_;rintro r w2 ⟨rfl,hb2⟩;have hz2:w.heap.size<w2.heap.size:=(by have:=hb2.size;first | omega | (simp at this;omega));have hy2:w.heap.size+1<w2.heap.size:=(by have:=hb2.size;first | omega | (simp at this;omega))))
  go_wp2_with fail
  go_region_held3 (fun u=>u.cell? ⟨w.heap.size,0,none⟩=some (.int .i64 x)∧u.cell? ⟨w.heap.size,1,none⟩=some (.int .i64 y)∧u.cell? ⟨w.heap.size,2,none⟩=some (.int .i64 d)∧u.cell? ⟨w.heap.size,3,none⟩=some (.int .i64 e)∧u.cell? ⟨w.heap.size+1,0,none⟩=some (.int .i64 x')∧u.cell? ⟨w.heap.size+1,1,none⟩=some (.int .i64 y')∧u.cell? ⟨w.heap.size+1,2,none⟩=some (.int .i64 d')∧u.cell? ⟨w.heap.size+1,3,none⟩=some (.int .i64 e')) ((go_light;first | (refine ⟨?_,?_,?_,?_,?_,?_,?_,?_⟩ <;> (simp only [(bcell hb4).1 _ _ hz3,(bcell hb4).1 _ _ hy3, *];done)) | (refine ⟨?_,?_,?_,?_,?_,?_,?_,?_⟩ <;> (simp only [(bcell hb3).1 _ _ hz2,(bcell hb3).1 _ _ hy2, *];done)) | (refine ⟨?_,?_,?_,?_,?_,?_,?_,?_⟩ <;> (simp only [(bcell hb2).1 _ _ hz1,(bcell hb2).1 _ _ hy1, *];done)) | (have hc:=(bcell hb1).1;refine ⟨?_,?_,?_,?_,?_,?_,?_,?_⟩ <;> go_simp <;> done) | (refine ⟨?_,?_,?_,?_,?_,?_,?_,?_⟩ <;> go_simp <;> done))) (first | (go_at_call_of 126 (Value.int IntKind.i64 x);refine (monDegS x y d e _).mono ?_;rintro r w3 ⟨rfl,hb3⟩;have hz3:w.heap.size<w3.heap.size:=(by have:=hb3.size;first | omega | (simp at this;omega));have hy3:w.heap.size+1<w3.heap.size:=(by have:=hb3.size;first | omega | (simp at this;omega))) | (go_at_call_of 126 (Value.int IntKind.i64 x');refine (monDegS x' y' d' e' _).mono ?_;rintro r w4 ⟨rfl,hb4⟩;have hz4:w.heap.size<w4.heap.size:=(by have:=hb4.size;first | omega | (simp at this;omega));have hy4:w.heap.size+1<w4.heap.size:=(by have:=hb4.size;first | omega | (simp at this;omega))) | (go_at_call 127;refine (cmpS _ _ _).mono ?_;rintro r w' ⟨rfl,rfl⟩))
  go_wp2
  go_ret
  exact ⟨rfl,bel_next (bel_next (bel_next (bel_next (bel_two w _ _).drew hb1) hb2).drew hb3) hb4⟩
set_option maxHeartbeats 1000000 in
theorem ordS2 (o:Int) (x y d e x' y' d' e':Int) (w:World) (h1:o≠1) (h3:o≠3) :
  Calls Tryz.prog 82 #[.int .i64 o,.agg #[.int .i64 x,.int .i64 y,.int .i64 d,.int .i64 e],.agg #[.int .i64 x',.int .i64 y',.int .i64 d',.int .i64 e']] w fun r w'=>r=.returned (.int .i64 (M.ord o ⟨x,y,d,e⟩ ⟨x',y',d',e'⟩))∧Below w.heap.size w w':=by
 have e1:M.ord o ⟨x,y,d,e⟩ ⟨x',y',d',e'⟩=M.lex ⟨x,y,d,e⟩ ⟨x',y',d',e'⟩:=by simp [M.ord,h1,h3]
 rw [e1]
 have b1:(o == 1)=false:=by simp [h1]
 have b3:(o == 3)=false:=by simp [h3]
 clear e1 h1 h3
 go_enter Tryz.func82,Tryz.ntmps82
 go_wp2_with fail
 go_region
 all_goals
  go_wp2_with (first | (go_at_call 128;refine (lexS x y d e x' y' d' e' _).mono ?_;rintro r w5 ⟨rfl,hb5⟩))
  go_ret
  exact ⟨rfl,bel_next (bel_two w _ _).drew hb5⟩
set_option maxHeartbeats 1000000 in
theorem ordS3 (x y d e x' y' d' e':Int) (w:World) (ha:M.ok ⟨x,y,d,e⟩=true) (hb:M.ok ⟨x',y',d',e'⟩=true) :
  Calls Tryz.prog 82 #[.int .i64 3,.agg #[.int .i64 x,.int .i64 y,.int .i64 d,.int .i64 e],.agg #[.int .i64 x',.int .i64 y',.int .i64 d',.int .i64 e']] w fun r w'=>r=.returned (.int .i64 (M.ord 3 ⟨x,y,d,e⟩ ⟨x',y',d',e'⟩))∧Below w.heap.size w w':=by
 obtain ⟨x1,x2,y1,y2,d1,d2,e1,e2⟩:=M.ok_iff.1 ha
 obtain ⟨x3,x4,y3,y4,d3,d4,e3,e4⟩:=M.ok_iff.1 hb
 simp only at x1 x2 y1 y2 d1 d2 e1 e2 x3 x4 y3 y4 d3 d4 e3 e4
 clear ha hb
 by_cases hs:d+x=d'+x'
 ·have r1:M.ord 3 ⟨x,y,d,e⟩ ⟨x',y',d',e'⟩=M.lex ⟨x,y,d,e⟩ ⟨x',y',d',e'⟩:=by simp [M.ord,hs]
  rw [r1]
  have b1:(d+x != d'+x')=false:=by simp [hs]
  clear hs r1
  go_enter Tryz.func82,Tryz.ntmps82
  go_wp2_with fail
  go_region
  all_goals
   go_wp2_with (first | (go_at_call 128;refine (lexS x y d e x' y' d' e' _).mono ?_;rintro r w5 ⟨rfl,hb5⟩) | (go_at_call 127;refine (cmpS _ _ _).mono ?_;rintro r w' ⟨rfl,rfl⟩))
   go_ret
   exact ⟨rfl,bel_next (bel_two w _ _).drew hb5⟩
 ·have r1:M.ord 3 ⟨x,y,d,e⟩ ⟨x',y',d',e'⟩=c3 (d+x) (d'+x'):=by simp [M.ord,hs]
  rw [r1]
  have b1:(d+x != d'+x')=true:=by simp [hs]
  clear hs r1
  go_enter Tryz.func82,Tryz.ntmps82
  go_wp2_with fail
  go_region
  all_goals
   go_wp2_with (first | (go_at_call 128;refine (lexS x y d e x' y' d' e' _).mono ?_;rintro r w5 ⟨rfl,hb5⟩) | (go_at_call 127;refine (cmpS _ _ _).mono ?_;rintro r w' ⟨rfl,rfl⟩))
   go_ret
   exact ⟨rfl,(bel_two w _ _).drew⟩
theorem ordS (o:Int) (x y d e x' y' d' e':Int) (w:World) (h:o=3→M.ok ⟨x,y,d,e⟩=true∧M.ok ⟨x',y',d',e'⟩=true) :
  Calls Tryz.prog 82 #[.int .i64 o,.agg #[.int .i64 x,.int .i64 y,.int .i64 d,.int .i64 e],.agg #[.int .i64 x',.int .i64 y',.int .i64 d',.int .i64 e']] w fun r w'=>r=.returned (.int .i64 (M.ord o ⟨x,y,d,e⟩ ⟨x',y',d',e'⟩))∧Below w.heap.size w w':=by
 by_cases h1:o=1
 ·subst h1;exact ordS1 x y d e x' y' d' e' w
 ·by_cases h3:o=3
  ·subst h3;exact ordS3 x y d e x' y' d' e' w (h rfl).1 (h rfl).2
  ·exact ordS2 o x y d e x' y' d' e' w h1 h3
set_option maxHeartbeats 1000000 in
theorem monMulS (x y d e x' y' d' e':Int) (w:World) :
  Calls Tryz.prog 145 #[.agg #[.int .i64 x,.int .i64 y,.int .i64 d,.int .i64 e],.agg #[.int .i64 x',.int .i64 y',.int .i64 d',.int .i64 e']] w fun r w'=>r=.returned (.tuple #[.agg #[.int .i64 (M.mul ⟨x,y,d,e⟩ ⟨x',y',d',e'⟩).1.x,.int .i64 (M.mul ⟨x,y,d,e⟩ ⟨x',y',d',e'⟩).1.y,.int .i64 (M.mul ⟨x,y,d,e⟩ ⟨x',y',d',e'⟩).1.d,.int .i64 (M.mul ⟨x,y,d,e⟩ ⟨x',y',d',e'⟩).1.e],.bool (M.mul ⟨x,y,d,e⟩ ⟨x',y',d',e'⟩).2])∧Below w.heap.size w w':=by
 cases ha:M.ok ⟨x,y,d,e⟩
 ·have r1:M.mul ⟨x,y,d,e⟩ ⟨x',y',d',e'⟩=(M.zero,false):=by simp [M.mul,ha]
  rw [r1]
  simp only [M.zero]
  go_enter Tryz.func145,Tryz.ntmps145
  go_wp2_with fail
  refine (monOkS _ _ _ _ _).mono ?_
  rw [ha]
  rintro r w1 ⟨rfl,hb1⟩
  obtain ⟨hc1,hf1⟩:=bcell hb1
  have hz1:w.heap.size+1+1<w1.heap.size:=by have:=hb1.size;simp at this;omega
  go_wp2
  refine bodyPost_ret (v:=.tuple #[.agg #[.int .i64 0,.int .i64 0,.int .i64 0,.int .i64 0],.bool false]) (by simp [results,Tryz.results145,go_sem, *]) rfl ⟨rfl,?_⟩
  exact bel_set4 (bel_next (bel_three w _ _ _) hb1) (by omega) _ _ _ _
 ·cases hb:M.ok ⟨x',y',d',e'⟩
  ·have r1:M.mul ⟨x,y,d,e⟩ ⟨x',y',d',e'⟩=(M.zero,false):=by simp [M.mul,hb]
   rw [r1]
   simp only [M.zero]
   clear r1
   go_enter Tryz.func145,Tryz.ntmps145
   go_wp2_with fail
   refine (monOkS _ _ _ _ _).mono ?_
   rw [ha]
   rintro r w1 ⟨rfl,hb1⟩
   obtain ⟨hc1,hf1⟩:=bcell hb1
   have hz1:w.heap.size+1+1<w1.heap.size:=by have:=hb1.size;simp at this;omega
   go_wp2_with fail
   refine (monOkS _ _ _ _ _).mono ?_
   rw [hb]
   rintro r w2 ⟨rfl,hb2⟩
   obtain ⟨hc2,hf2⟩:=bcell hb2
   have hz2:w.heap.size+1+1<w2.heap.size:=by have:=hb2.size;omega
   go_wp2
   refine bodyPost_ret (v:=.tuple #[.agg #[.int .i64 0,.int .i64 0,.int .i64 0,.int .i64 0],.bool false]) (by simp [results,Tryz.results145,go_sem, *]) rfl ⟨rfl,?_⟩
   exact bel_set4 (bel_next (bel_next (bel_three w _ _ _) hb1) hb2) (by omega) _ _ _ _
  ·obtain ⟨x1,x2,y1,y2,d1,d2,e1,e2⟩:=M.ok_iff.1 ha
   obtain ⟨x3,x4,y3,y4,d3,d4,e3,e4⟩:=M.ok_iff.1 hb
   simp only at x1 x2 y1 y2 d1 d2 e1 e2 x3 x4 y3 y4 d3 d4 e3 e4
   cases hs:M.ok ⟨x+x',y+y',d+d',e+e'⟩
   ·have r1:M.mul ⟨x,y,d,e⟩ ⟨x',y',d',e'⟩=(M.zero,false):=by simp [M.mul,M.sum,hs]
    rw [r1]
    simp only [M.zero]
    clear r1
    go_enter Tryz.func145,Tryz.ntmps145
    go_wp2_with fail
    refine (monOkS _ _ _ _ _).mono ?_
    rw [ha]
    rintro r w1 ⟨rfl,hb1⟩
    obtain ⟨hc1,hf1⟩:=bcell hb1
    have hz1:w.heap.size+1+1<w1.heap.size:=by have:=hb1.size;simp at this;omega
    have hz0:w.heap.size+1<w1.heap.size:=by omega
    have hzz:w.heap.size<w1.heap.size:=by omega
    go_wp2_with fail
    refine (monOkS _ _ _ _ _).mono ?_
    rw [hb]
    rintro r w2 ⟨rfl,hb2⟩
    obtain ⟨hc2,hf2⟩:=bcell hb2
    have hz2:w.heap.size+1+1<w2.heap.size:=by have:=hb2.size;omega
    go_wp2_with fail
    refine (monOkS _ _ _ _ _).mono ?_
    rw [hs]
    rintro r w3 ⟨rfl,hb3⟩
    obtain ⟨hc3,hf3⟩:=bcell (bel_next ((Below.refl w2.heap.size w2).alloc (Nat.le_refl _) _) hb3)
    have ht:∀ i,w3.cell? ⟨w2.heap.size,i,none⟩=#[Value.int .i64 (x+x'),.int .i64 (y+y'),.int .i64 (d+d'),.int .i64 (e+e')][i]?:=fun i=>by
     rw [hb3.cell (p:=⟨w2.heap.size,i,none⟩) (by simp),World.cell?_alloc_at _ _ _ _ rfl]
    have hB:=bel_next ((bel_next (bel_next (bel_three w _ _ _) hb1) hb2).alloc (bel_next (bel_next (bel_three w _ _ _) hb1) hb2).size _) hb3
    go_wp2
    refine bodyPost_ret (v:=.tuple #[.agg #[.int .i64 0,.int .i64 0,.int .i64 0,.int .i64 0],.bool false]) (by simp [results,Tryz.results145,go_sem, *]) rfl ⟨rfl,?_⟩
    exact bel_set4 hB (by omega) _ _ _ _
   ·have r1:M.mul ⟨x,y,d,e⟩ ⟨x',y',d',e'⟩=(⟨x+x',y+y',d+d',e+e'⟩,true):=by simp [M.mul,M.sum,hs,ha,hb]
    rw [r1]
    clear r1
    go_enter Tryz.func145,Tryz.ntmps145
    go_wp2_with fail
    refine (monOkS _ _ _ _ _).mono ?_
    rw [ha]
    rintro r w1 ⟨rfl,hb1⟩
    obtain ⟨hc1,hf1⟩:=bcell hb1
    have hz1:w.heap.size+1+1<w1.heap.size:=by have:=hb1.size;simp at this;omega
    have hz0:w.heap.size+1<w1.heap.size:=by omega
    have hzz:w.heap.size<w1.heap.size:=by omega
    go_wp2_with fail
    refine (monOkS _ _ _ _ _).mono ?_
    rw [hb]
    rintro r w2 ⟨rfl,hb2⟩
    obtain ⟨hc2,hf2⟩:=bcell hb2
    have hz2:w.heap.size+1+1<w2.heap.size:=by have:=hb2.size;omega
    go_wp2_with fail
    refine (monOkS _ _ _ _ _).mono ?_
    rw [hs]
    rintro r w3 ⟨rfl,hb3⟩
    obtain ⟨hc3,hf3⟩:=bcell (bel_next ((Below.refl w2.heap.size w2).alloc (Nat.le_refl _) _) hb3)
    have ht:∀ i,w3.cell? ⟨w2.heap.size,i,none⟩=#[Value.int .i64 (x+x'),.int .i64 (y+y'),.int .i64 (d+d'),.int .i64 (e+e')][i]?:=fun i=>by
     rw [hb3.cell (p:=⟨w2.heap.size,i,none⟩) (by simp),World.cell?_alloc_at _ _ _ _ rfl]
    have hB:=bel_next ((bel_next (bel_next (bel_three w _ _ _) hb1) hb2).alloc (bel_next (bel_next (bel_three w _ _ _) hb1) hb2).size _) hb3
    go_wp2
    refine bodyPost_ret (v:=.tuple #[.agg #[.int .i64 (x+x'),.int .i64 (y+y'),.int .i64 (d+d'),.int .i64 (e+e')],.bool true]) (by simp [results,Tryz.results145,go_sem, *]) rfl ⟨rfl,?_⟩
    exact bel_set4 hB (by omega) _ _ _ _
end Go.Proofs.YtdidlcjhodejjaaGreat
namespace Go.Proofs.YtdidlcjhodejjaaGreat
open Go.RowKit
set_option linter.unusedVariables false
set_option maxHeartbeats 2000000 in
theorem monDividesS (x y d e x' y' d' e':Int) (w:World) :
  Calls Tryz.prog 83 #[.agg #[.int .i64 x,.int .i64 y,.int .i64 d,.int .i64 e],.agg #[.int .i64 x',.int .i64 y',.int .i64 d',.int .i64 e']] w fun r w'=>r=.returned (.bool (M.dvd ⟨x,y,d,e⟩ ⟨x',y',d',e'⟩))∧Below w.heap.size w w':=by
 cases ha:M.ok ⟨x,y,d,e⟩
 ·have r1:M.dvd ⟨x,y,d,e⟩ ⟨x',y',d',e'⟩=false:=by simp [M.dvd,ha]
  rw [r1]
  clear r1
  go_enter Tryz.func83,Tryz.ntmps83
  go_wp2_with fail
  refine (monOkS_of ha _).mono ?_
  rintro r w1 ⟨rfl,hb1⟩
  go_wp2
  go_ret
  exact ⟨rfl,bel_next (bel_two w _ _) hb1⟩
 ·cases hb:M.ok ⟨x',y',d',e'⟩
  ·have r1:M.dvd ⟨x,y,d,e⟩ ⟨x',y',d',e'⟩=false:=by simp [M.dvd,hb]
   rw [r1]
   clear r1
   go_enter Tryz.func83,Tryz.ntmps83
   go_wp2_with fail
   refine (monOkS_of ha _).mono ?_
   rintro r w1 ⟨rfl,hb1⟩
   obtain ⟨hc1,hf1⟩:=bcell hb1
   have hz1:w.heap.size+1<w1.heap.size:=by have:=hb1.size;simp at this;omega
   have hy1:w.heap.size<w1.heap.size:=by omega
   go_wp2_with fail
   refine (monOkS_of hb _).mono ?_
   rintro r w2 ⟨rfl,hb2⟩
   obtain ⟨hc2,hf2⟩:=bcell hb2
   go_wp2
   go_ret
   exact ⟨rfl,bel_next (bel_next (bel_two w _ _) hb1) hb2⟩
  ·skip
   by_cases h0:x≤x'
   ·have t0:decide (x≤x')=true:=decide_eq_true h0
    by_cases h1:y≤y'
    ·have t1:decide (y≤y')=true:=decide_eq_true h1
     by_cases h2:d≤d'
     ·have t2:decide (d≤d')=true:=decide_eq_true h2
      by_cases h3:e≤e'
      ·have t3:decide (e≤e')=true:=decide_eq_true h3
       have r1:M.dvd ⟨x,y,d,e⟩ ⟨x',y',d',e'⟩=true:=by simp [M.dvd,ha,hb,h0,h1,h2,h3]
       rw [r1]
       clear r1
       go_enter Tryz.func83,Tryz.ntmps83
       go_wp2_with fail
       refine (monOkS_of ha _).mono ?_
       rintro r w1 ⟨rfl,hb1⟩
       obtain ⟨hc1,hf1⟩:=bcell hb1
       have hz1:w.heap.size+1<w1.heap.size:=by have:=hb1.size;simp at this;omega
       have hy1:w.heap.size<w1.heap.size:=by omega
       go_wp2_with fail
       refine (monOkS_of hb _).mono ?_
       rintro r w2 ⟨rfl,hb2⟩
       obtain ⟨hc2,hf2⟩:=bcell hb2
       go_wp2
       go_ret
       exact ⟨rfl,bel_next (bel_next (bel_two w _ _) hb1) hb2⟩
      ·have t3:decide (e≤e')=false:=decide_eq_false h3
       have r1:M.dvd ⟨x,y,d,e⟩ ⟨x',y',d',e'⟩=false:=by simp [M.dvd,h3]
       rw [r1]
       clear r1
       go_enter Tryz.func83,Tryz.ntmps83
       go_wp2_with fail
       refine (monOkS_of ha _).mono ?_
       rintro r w1 ⟨rfl,hb1⟩
       obtain ⟨hc1,hf1⟩:=bcell hb1
       have hz1:w.heap.size+1<w1.heap.size:=by have:=hb1.size;simp at this;omega
       have hy1:w.heap.size<w1.heap.size:=by omega
       go_wp2_with fail
       refine (monOkS_of hb _).mono ?_
       rintro r w2 ⟨rfl,hb2⟩
       obtain ⟨hc2,hf2⟩:=bcell hb2
       go_wp2
       go_ret
       exact ⟨rfl,bel_next (bel_next (bel_two w _ _) hb1) hb2⟩
     ·have t2:decide (d≤d')=false:=decide_eq_false h2
      have r1:M.dvd ⟨x,y,d,e⟩ ⟨x',y',d',e'⟩=false:=by simp [M.dvd,h2]
      rw [r1]
      clear r1
      go_enter Tryz.func83,Tryz.ntmps83
      go_wp2_with fail
      refine (monOkS_of ha _).mono ?_
      rintro r w1 ⟨rfl,hb1⟩
      obtain ⟨hc1,hf1⟩:=bcell hb1
      have hz1:w.heap.size+1<w1.heap.size:=by have:=hb1.size;simp at this;omega
      have hy1:w.heap.size<w1.heap.size:=by omega
      go_wp2_with fail
      refine (monOkS_of hb _).mono ?_
      rintro r w2 ⟨rfl,hb2⟩
      obtain ⟨hc2,hf2⟩:=bcell hb2
      go_wp2
      go_ret
      exact ⟨rfl,bel_next (bel_next (bel_two w _ _) hb1) hb2⟩
    ·have t1:decide (y≤y')=false:=decide_eq_false h1
     have r1:M.dvd ⟨x,y,d,e⟩ ⟨x',y',d',e'⟩=false:=by simp [M.dvd,h1]
     rw [r1]
     clear r1
     go_enter Tryz.func83,Tryz.ntmps83
     go_wp2_with fail
     refine (monOkS_of ha _).mono ?_
     rintro r w1 ⟨rfl,hb1⟩
     obtain ⟨hc1,hf1⟩:=bcell hb1
     have hz1:w.heap.size+1<w1.heap.size:=by have:=hb1.size;simp at this;omega
     have hy1:w.heap.size<w1.heap.size:=by omega
     go_wp2_with fail
     refine (monOkS_of hb _).mono ?_
     rintro r w2 ⟨rfl,hb2⟩
     obtain ⟨hc2,hf2⟩:=bcell hb2
     go_wp2
     go_ret
     exact ⟨rfl,bel_next (bel_next (bel_two w _ _) hb1) hb2⟩
   ·have t0:decide (x≤x')=false:=decide_eq_false h0
    have r1:M.dvd ⟨x,y,d,e⟩ ⟨x',y',d',e'⟩=false:=by simp [M.dvd,h0]
    rw [r1]
    clear r1
    go_enter Tryz.func83,Tryz.ntmps83
    go_wp2_with fail
    refine (monOkS_of ha _).mono ?_
    rintro r w1 ⟨rfl,hb1⟩
    obtain ⟨hc1,hf1⟩:=bcell hb1
    have hz1:w.heap.size+1<w1.heap.size:=by have:=hb1.size;simp at this;omega
    have hy1:w.heap.size<w1.heap.size:=by omega
    go_wp2_with fail
    refine (monOkS_of hb _).mono ?_
    rintro r w2 ⟨rfl,hb2⟩
    obtain ⟨hc2,hf2⟩:=bcell hb2
    go_wp2
    go_ret
    exact ⟨rfl,bel_next (bel_next (bel_two w _ _) hb1) hb2⟩
theorem monDividesS_of {x y d e x' y' d' e':Int} {b:Bool} (h:M.dvd ⟨x,y,d,e⟩ ⟨x',y',d',e'⟩=b) (w:World) :
  Calls Tryz.prog 83 #[.agg #[.int .i64 x,.int .i64 y,.int .i64 d,.int .i64 e],.agg #[.int .i64 x',.int .i64 y',.int .i64 d',.int .i64 e']] w fun r w'=>r=.returned (.bool b)∧Below w.heap.size w w':=by
 rw [← h];exact monDividesS _ _ _ _ _ _ _ _ w
theorem M.dvd_iff {a b:M} (h:a.dvd b=true):a.ok=true∧b.ok=true∧a.x≤b.x∧a.y≤b.y∧a.d≤b.d∧a.e≤b.e:=by
 simp [M.dvd] at h
 exact ⟨h.1.1,h.1.2,h.2⟩
set_option maxHeartbeats 2000000 in
theorem monOverS (x y d e x' y' d' e':Int) (w:World) :
  Calls Tryz.prog 129 #[.agg #[.int .i64 x,.int .i64 y,.int .i64 d,.int .i64 e],.agg #[.int .i64 x',.int .i64 y',.int .i64 d',.int .i64 e']] w fun r w'=>r=.returned (.tuple #[.agg #[.int .i64 (M.over ⟨x,y,d,e⟩ ⟨x',y',d',e'⟩).1.x,.int .i64 (M.over ⟨x,y,d,e⟩ ⟨x',y',d',e'⟩).1.y,.int .i64 (M.over ⟨x,y,d,e⟩ ⟨x',y',d',e'⟩).1.d,.int .i64 (M.over ⟨x,y,d,e⟩ ⟨x',y',d',e'⟩).1.e],.bool (M.over ⟨x,y,d,e⟩ ⟨x',y',d',e'⟩).2])∧Below w.heap.size w w':=by
 cases hd:M.dvd ⟨x',y',d',e'⟩ ⟨x,y,d,e⟩
 ·have r1:M.over ⟨x,y,d,e⟩ ⟨x',y',d',e'⟩=(M.zero,false):=by simp [M.over,hd]
  rw [r1]
  simp only [M.zero]
  clear r1
  go_enter Tryz.func129,Tryz.ntmps129
  go_wp2_with fail
  refine (monDividesS_of hd _).mono ?_
  rintro r w1 ⟨rfl,hb1⟩
  obtain ⟨hc1,hf1⟩:=bcell hb1
  have hz1:w.heap.size+1+1<w1.heap.size:=by have:=hb1.size;simp at this;omega
  go_wp2
  refine bodyPost_ret (v:=.tuple #[.agg #[.int .i64 0,.int .i64 0,.int .i64 0,.int .i64 0],.bool false]) (by simp [results,Tryz.results129,go_sem, *]) rfl ⟨rfl,?_⟩
  exact bel_set4 (bel_next (bel_three w _ _ _) hb1) (by omega) _ _ _ _
 ·obtain ⟨o1,o2,l1,l2,l3,l4⟩:=M.dvd_iff hd
  obtain ⟨x1,x2,y1,y2,d1,d2,e1,e2⟩:=M.ok_iff.1 o1
  obtain ⟨x3,x4,y3,y4,d3,d4,e3,e4⟩:=M.ok_iff.1 o2
  simp only at x1 x2 y1 y2 d1 d2 e1 e2 x3 x4 y3 y4 d3 d4 e3 e4 l1 l2 l3 l4
  have r1:M.over ⟨x,y,d,e⟩ ⟨x',y',d',e'⟩=(⟨x - x',y - y',d - d',e - e'⟩,true):=by simp [M.over,hd,M.diff]
  rw [r1]
  clear r1 o1 o2
  go_enter Tryz.func129,Tryz.ntmps129
  go_wp2_with fail
  refine (monDividesS_of hd _).mono ?_
  rintro r w1 ⟨rfl,hb1⟩
  obtain ⟨hc1,hf1⟩:=bcell hb1
  have hz1:w.heap.size+1+1<w1.heap.size:=by have:=hb1.size;simp at this;omega
  go_wp2
  refine bodyPost_ret (v:=.tuple #[.agg #[.int .i64 (x - x'),.int .i64 (y - y'),.int .i64 (d - d'),.int .i64 (e - e')],.bool true]) (by simp [results,Tryz.results129,go_sem, *]) rfl ⟨rfl,?_⟩
  exact bel_set4 (bel_next (bel_three w _ _ _) hb1) (by omega) _ _ _ _
theorem maxS (a b:Int) (w:World) :
  Calls Tryz.prog 173 #[.int .i64 a,.int .i64 b] w fun r w'=>r=.returned (.int .i64 (mx a b))∧w'=w:=by
 by_cases h:b<a
 ·have e1:mx a b=a:=if_pos h
  rw [e1]
  go_enter Tryz.func173,Tryz.ntmps173
  go_wp2
  go_ret
  exact ⟨rfl,rfl⟩
 ·have e1:mx a b=b:=if_neg h
  rw [e1]
  go_enter Tryz.func173,Tryz.ntmps173
  go_wp2
  go_ret
  exact ⟨rfl,rfl⟩
theorem far4 {w:World} {B b o o0 o1 o2 o3:Nat} {u0 u1 u2 u3:Value} (h:b≠B):((((w.setCell ⟨B,o0,none⟩ u0).setCell ⟨B,o1,none⟩ u1).setCell ⟨B,o2,none⟩ u2).setCell ⟨B,o3,none⟩ u3).cell? ⟨b,o,none⟩=w.cell? ⟨b,o,none⟩:=by
 refine World.cell?_of_block ?_
 rw [Below.heap_setCell _ _ _ _ h,Below.heap_setCell _ _ _ _ h,Below.heap_setCell _ _ _ _ h,Below.heap_setCell _ _ _ _ h]
end Go.Proofs.YtdidlcjhodejjaaGreat
