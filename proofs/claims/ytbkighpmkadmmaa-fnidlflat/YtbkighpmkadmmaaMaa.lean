/-
  The plain numbers of chapter 1, with no program in sight: the residues by 101, their powers and their falling products, 
-/
import Derived.WalkKit
import Derived.Test.YtbkighpmkadmmaaRows
import Derived.Deep.RegionHeld3
import Derived.Deep.Light
import Derived.Below
set_option maxHeartbeats 1000000
namespace Go.Proofs.Ytbkighpmkadmmaa
abbrev fG:=@World.block_lt_of_cell?
abbrev cM:=@Go.RowKit.Below.refl
abbrev cN:=@bodyPost_ret
abbrev gT:=@Nat.zero_le
abbrev lD:=@Nat.lt_of_lt_of_le
abbrev mC:=@World.cell?_of_block
abbrev kM:=@Nat.le_trans
abbrev LE:=@World.cell?_alloc_lt
theorem gE:(∀{α:Type}(xs:List α)(i:Nat)(h:i<xs.toArray.size),xs.toArray[i]=xs[i]'(by simpa using h))∧(∀{α:Type}(a:α)(l:List α)(i:Nat)(h:i+1<(a::l).length),(a::l)[i+1]=l[i]'(by simpa using h))∧(∀{α:Type}(a:α)(l:List α)(h:0<(a::l).length),(a::l)[0]=a)∧(∀{α:Type}(l:List α)(i:Nat)(a:α),l.toArray.setIfInBounds i a=(l.set i a).toArray)∧(∀{α:Type}(x:α)(xs:List α)(a:α),(x::xs).set 0 a=a::xs)∧(∀{α:Type}(x:α)(xs:List α)(n:Nat)(a:α),(x::xs).set (n+1) a=x::xs.set n a):=⟨fun _ _ _=>List.getElem_toArray ..,fun _ _ _ _=>List.getElem_cons_succ ..,fun _ _ _=>List.getElem_cons_zero ..,fun _ _ _=>List.setIfInBounds_toArray ..,fun _ _ _=>List.set_cons_zero ..,fun _ _ _ _=>List.set_cons_succ ..⟩
def lO (a b:Int):Int:=if 0≤a∧a≤100∧0≤b∧b≤100 then a*b%101 else 0
def pw (a:Int):Nat→Int
 |0=>1
 |n+1=>pw a n*a%101
def GL (a n:Int):Int:=if 0≤a∧a≤100∧0≤n∧n≤1000 then pw a n.toNat else 0
def iv (a:Int):Int:=pw a 99
def jT (a:Int):Int:=if 0≤a∧a≤100 then iv a else 0
def fl (n:Int):Nat→Int
 |0=>1
 |i+1=>fl n i*((n-i)%101)%101
def gG (n k:Int):Int:=if 0≤n∧n≤60∧0≤k∧k≤60 then fl n k.toNat else 0
def dA (n k:Int):Int:=if 0≤n∧n≤60∧0≤k∧k≤n then fl n k.toNat*iv (fl k k.toNat)%101 else 0
theorem JV (a:Int) (n:Nat):0≤pw a n∧pw a n≤100:=by
 cases n with
 |zero=>simp[pw]
 |succ n=>simp only[pw];omega
theorem yS (a:Int):0≤iv a∧iv a≤100:=JV a 99
theorem CR (n:Int) (i:Nat):0≤fl n i∧fl n i≤100:=by
 cases i with
 |zero=>simp[fl]
 |succ i=>simp only[fl];omega
theorem sW {a b:Int} (ha:0≤a) (ha':a≤100) (hb:0≤b) (hb':b≤100):0≤a*b∧a*b≤10000:=by
 refine⟨Int.mul_nonneg ha hb,?_⟩
 calc a*b≤100*100:=Int.mul_le_mul ha' hb' hb (by omega)
  _=10000:=by omega
theorem tF {k:IntKind} {a b:Int} (h:a=b):Ending.returned (.int k a)= .returned (.int k b):=by rw[h]
theorem fF {a b:Int} (h1:0≤a) (h2:a≤100) (h3:0≤b) (h4:b≤100):lO a b=a*b%101:=if_pos ⟨h1,h2,h3,h4⟩
theorem sI {a:Int} (h1:0≤a) (h2:a≤100):jT a=iv a:=if_pos ⟨h1,h2⟩
theorem yO {a n:Int} (h1:0≤a) (h2:a≤100) (h3:0≤n) (h4:n≤1000):GL a n=pw a n.toNat:=if_pos ⟨h1,h2,h3,h4⟩
theorem pR {n k:Int} (h1:0≤n) (h2:n≤60) (h3:0≤k) (h4:k≤60):gG n k=fl n k.toNat:=if_pos ⟨h1,h2,h3,h4⟩
theorem wU {n k:Int} (h1:0≤n) (h2:n≤60) (h3:0≤k) (h4:k≤n):dA n k=fl n k.toNat*iv (fl k k.toNat)%101:=if_pos ⟨h1,h2,h3,h4⟩
theorem CN {a b:Int} (h:¬(0≤a∧a≤100∧0≤b∧b≤100)):lO a b=0:=if_neg h
theorem CM {a:Int} (h:¬(0≤a∧a≤100)):jT a=0:=if_neg h
theorem uS {a n:Int} (h:¬(0≤a∧a≤100∧0≤n∧n≤1000)):GL a n=0:=if_neg h
theorem AO {n k:Int} (h:¬(0≤n∧n≤60∧0≤k∧k≤60)):gG n k=0:=if_neg h
theorem uP {n k:Int} (h:¬(0≤n∧n≤60∧0≤k∧k≤n)):dA n k=0:=if_neg h
theorem GM (a:Int):GL a 99=jT a:=by
 by_cases h:0≤a∧a≤100
 ·rw[yO h.1 h.2 (by omega) (by omega),sI h.1 h.2];rfl
 ·rw[uS (by omega),CM h]
theorem uO {n k:Int} (h1:0≤n) (h2:n≤60) (h3:0≤k) (h4:k≤n):lO (gG n k) (jT (gG k k))=dA n k:=by
 have b1:=CR n k.toNat;have b2:=CR k k.toNat
 have b3:=yS (fl k k.toNat);rw[wU h1 h2 h3 h4,pR h1 h2 h3 (by omega),pR h3 (by omega) h3 (by omega),sI b2.1 b2.2,fF b1.1 b1.2 b3.1 b3.2]
theorem mN (a:Int):0≤jT a∧jT a≤100:=by have:=yS a;unfold jT;split<;>omega
theorem rJ:∀a:Fin 101,∀b:Fin 101,a.val*b.val%101=0→a.val=0∨b.val=0:=by decide+kernel
theorem sZ {a b:Int} (ha:0≤a∧a≤100) (hb:0≤b∧b≤100) (h:a*b%101=0):a=0∨b=0:=by
 obtain⟨x,rfl⟩:=Int.eq_ofNat_of_zero_le ha.1;obtain⟨y,rfl⟩:=Int.eq_ofNat_of_zero_le hb.1;have:=rJ ⟨x,by omega⟩ ⟨y,by omega⟩ (by simp only;omega)
 simp only at this;omega
theorem yN {a b:Int} (ha:0≤a∧a≤100) (hb:0≤b∧b≤100) (h1:a≠0) (h2:b≠0):lO a b≠0:=by
 rw[fF ha.1 ha.2 hb.1 hb.2];intro h;have:=sZ ha hb h
 omega
theorem GP:∀a:Fin 101,a.val≠0→pw (a.val:Int) 99*(a.val:Int)%101=1:=by decide+kernel
theorem KJ {b:Int} (hb:0≤b∧b≤100) (h0:b≠0):iv b*b%101=1:=by obtain⟨x,rfl⟩:=Int.eq_ofNat_of_zero_le hb.1;exact GP ⟨x,by omega⟩ (by simp only;omega)
theorem pS {b:Int} (hb:0≤b∧b≤100) (h0:b≠0):lO (jT b) b=1:=by rw[sI hb.1 hb.2,fF (yS b).1 (yS b).2 hb.1 hb.2,KJ hb h0]
open Go.RowKit
set_option linter.unusedVariables false
theorem KV (a:Int) (w:World) (h1:0≤a) (h2:a≤100):Calls Try.prog 74 #[.int .i64 a] w fun e w'=>e= .returned (.bool true)∧w'=w:=by have d1:decide (a<101)=true:=decide_eq_true (by omega);go_enter Try.func74,Try.ntmps74;go_wp2;go_ret;exact⟨rfl,rfl⟩
theorem IOz (a:Int) (w:World) (h:a<0∨100<a):Calls Try.prog 74 #[.int .i64 a] w fun e w'=>e= .returned (.bool false)∧w'=w:=by
 rcases h with h|h
 ·go_enter Try.func74,Try.ntmps74;go_wp2;go_ret;exact⟨rfl,rfl⟩
 ·have d1:decide (a<101)=false:=decide_eq_false (by omega);go_enter Try.func74,Try.ntmps74;go_wp2;go_ret;exact⟨rfl,rfl⟩
theorem bF (n l h:Int) (w:World) (h1:l≤n) (h2:n≤h):Calls Try.prog 51 #[.int .i64 n,.int .i64 l,.int .i64 h] w fun e w'=>e= .returned (.bool true)∧w'=w:=by have d1:decide (n≤h)=true:=decide_eq_true h2;go_enter Try.func51,Try.ntmps51;go_wp2;go_ret;exact⟨rfl,rfl⟩
theorem bS (n l h:Int) (w:World) (hh:n<l∨(l≤n∧h<n)):Calls Try.prog 51 #[.int .i64 n,.int .i64 l,.int .i64 h] w fun e w'=>e= .returned (.bool false)∧w'=w:=by
 rcases hh with h1|⟨h1,h2⟩
 ·go_enter Try.func51,Try.ntmps51;go_wp2;go_ret;exact⟨rfl,rfl⟩
 ·have d1:decide (n≤h)=false:=decide_eq_false (by omega);go_enter Try.func51,Try.ntmps51;go_wp2;go_ret;exact⟨rfl,rfl⟩
theorem tB (a:Int) (w:World) (h1:0≤a) (h2:a≤100):Calls Try.prog 136 #[.int .i64 a] w fun e w'=>e= .returned (.bool true)∧w'=w:=by go_enter Try.func136,Try.ntmps136;go_wp2_with (first|(go_at_call 51;first|(refine(bF _ _ _ _ (by omega) (by omega)).mono ?_;rintro e w' ⟨rfl,rfl⟩)|(refine(bS _ _ _ _ (by omega)).mono ?_;rintro e w' ⟨rfl,rfl⟩)));go_ret;exact⟨rfl,rfl⟩
theorem pG (a:Int) (w:World) (h:a<0∨100<a):Calls Try.prog 136 #[.int .i64 a] w fun e w'=>e= .returned (.bool false)∧w'=w:=by
 rcases h with h|h
 ·go_enter Try.func136,Try.ntmps136;go_wp2_with (first|(go_at_call 51;first|(refine(bF _ _ _ _ (by omega) (by omega)).mono ?_;rintro e w' ⟨rfl,rfl⟩)|(refine(bS _ _ _ _ (by omega)).mono ?_;rintro e w' ⟨rfl,rfl⟩)));go_ret;exact⟨rfl,rfl⟩
 ·go_enter Try.func136,Try.ntmps136;go_wp2_with (first|(go_at_call 51;first|(refine(bF _ _ _ _ (by omega) (by omega)).mono ?_;rintro e w' ⟨rfl,rfl⟩)|(refine(bS _ _ _ _ (by omega)).mono ?_;rintro e w' ⟨rfl,rfl⟩)));go_ret;exact⟨rfl,rfl⟩
theorem NF (a b:Int) (w:World):Calls Try.prog 138 #[.int .i64 a,.int .i64 b] w fun e w'=>e= .returned (.int .i64 (lO a b))∧w'=w:=by
 by_cases h:0≤a∧a≤100∧0≤b∧b≤100
 ·rw[fF h.1 h.2.1 h.2.2.1 h.2.2.2];obtain⟨h1,h2,h3,h4⟩:=h;obtain⟨hm1,hm2⟩:=sW h1 h2 h3 h4;go_enter Try.func138,Try.ntmps138;go_wp2_with (first|(go_at_call 136;first|(refine(tB _ _ (by omega) (by omega)).mono ?_;rintro e w' ⟨rfl,rfl⟩)|(refine(pG _ _ (by omega)).mono ?_;rintro e w' ⟨rfl,rfl⟩)));go_ret;exact⟨rfl,rfl⟩
 ·rw[CN h];have h':a<0∨100<a∨(0≤a∧a≤100∧b<0)∨(0≤a∧a≤100∧100<b):=by omega
  clear h;rcases h' with h|h|⟨h1,h2,h3⟩|⟨h1,h2,h3⟩
  all_goals
   go_enter Try.func138,Try.ntmps138;go_wp2_with (first|(go_at_call 136;first|(refine(tB _ _ (by omega) (by omega)).mono ?_;rintro e w' ⟨rfl,rfl⟩)|(refine(pG _ _ (by omega)).mono ?_;rintro e w' ⟨rfl,rfl⟩)));go_ret;exact⟨rfl,rfl⟩
theorem NG (a n:Int) (w:World):Calls Try.prog 122 #[.int .i64 a,.int .i64 n] w fun e w'=>e= .returned (.int .i64 (GL a n))∧w'=w:=by
 by_cases h:0≤a∧a≤100∧0≤n∧n≤1000
 ·rw[yO h.1 h.2.1 h.2.2.1 h.2.2.2];obtain⟨h1,h2,h3,h4⟩:=h;go_enter Try.func122,Try.ntmps122;go_wp2_with (first|(go_at_call 136;first|(refine(tB _ _ (by omega) (by omega)).mono ?_;rintro e w' ⟨rfl,rfl⟩)|(refine(pG _ _ (by omega)).mono ?_;rintro e w' ⟨rfl,rfl⟩))|(go_at_call 51;first|(refine(bF _ _ _ _ (by omega) (by omega)).mono ?_;rintro e w' ⟨rfl,rfl⟩)|(refine(bS _ _ _ _ (by omega)).mono ?_;rintro e w' ⟨rfl,rfl⟩)))
  go_loop [5,6] (fun x i=>∃k:Nat,(k:Int)≤n∧i= .int .i64 k∧x= .int .i64 (pw a k)) (fun _ i=>(n-intOf i).toNat)
  case atStart=>exact⟨0,by omega,rfl,rfl⟩
  case round=>
   obtain⟨k,hk,rfl,rfl⟩:=hrel;obtain⟨p1,p2⟩:=JV a k;by_cases hlt:(k:Int)<n
   ·obtain⟨t1,t2⟩:=sW p1 p2 h1 h2;go_wp2;go_round;case rel=>exact⟨k+1,by omega,by go_num,rfl⟩
    case measure=>simp[intOf];omega
   ·go_wp2;go_ret;exact⟨tF (by rw[show n.toNat=k by omega]),rfl⟩
 ·rw[uS h];have h':a<0∨100<a∨(0≤a∧a≤100∧n<0)∨(0≤a∧a≤100∧1000<n):=by omega
  clear h;rcases h' with h|h|⟨h1,h2,h3⟩|⟨h1,h2,h3⟩
  all_goals
   go_enter Try.func122,Try.ntmps122;go_wp2_with (first|(go_at_call 136;first|(refine(tB _ _ (by omega) (by omega)).mono ?_;rintro e w' ⟨rfl,rfl⟩)|(refine(pG _ _ (by omega)).mono ?_;rintro e w' ⟨rfl,rfl⟩))|(go_at_call 51;first|(refine(bF _ _ _ _ (by omega) (by omega)).mono ?_;rintro e w' ⟨rfl,rfl⟩)|(refine(bS _ _ _ _ (by omega)).mono ?_;rintro e w' ⟨rfl,rfl⟩)));go_ret;exact⟨rfl,rfl⟩
theorem LU (a:Int) (w:World):Calls Try.prog 103 #[.int .i64 a] w fun e w'=>e= .returned (.int .i64 (jT a))∧w'=w:=by go_enter Try.func103,Try.ntmps103;go_wp2_with (first|(go_at_call 122;refine(NG _ _ _).mono ?_;rintro e w' ⟨rfl,rfl⟩));go_ret;exact⟨tF (GM a),rfl⟩
theorem JU (n k:Int) (w:World):Calls Try.prog 126 #[.int .i64 n,.int .i64 k] w fun e w'=>e= .returned (.int .i64 (gG n k))∧w'=w:=by
 by_cases h:0≤n∧n≤60∧0≤k∧k≤60
 ·rw[pR h.1 h.2.1 h.2.2.1 h.2.2.2];obtain⟨h1,h2,h3,h4⟩:=h;go_enter Try.func126,Try.ntmps126;go_wp2_with (first|(go_at_call 51;first|(refine(bF _ _ _ _ (by omega) (by omega)).mono ?_;rintro e w' ⟨rfl,rfl⟩)|(refine(bS _ _ _ _ (by omega)).mono ?_;rintro e w' ⟨rfl,rfl⟩)))
  go_loop [5,6] (fun x i=>∃j:Nat,(j:Int)≤k∧i= .int .i64 j∧x= .int .i64 (fl n j)) (fun _ i=>(k-intOf i).toNat)
  case atStart=>exact⟨0,by omega,rfl,rfl⟩
  case round=>
   obtain⟨j,hj,rfl,rfl⟩:=hrel;obtain⟨p1,p2⟩:=CR n j;by_cases hlt:(j:Int)<k
   ·obtain⟨t1,t2⟩:=sW p1 p2 (show(0:Int)≤(n-j)%101 by omega) (show(n-(j:Int))%101≤100 by omega);go_wp2;go_round;case rel=>exact⟨j+1,by omega,by go_num,rfl⟩
    case measure=>simp[intOf];omega
   ·go_wp2;go_ret;exact⟨tF (by rw[show k.toNat=j by omega]),rfl⟩
 ·rw[AO h];have h':n<0∨60<n∨(0≤n∧n≤60∧k<0)∨(0≤n∧n≤60∧60<k):=by omega
  clear h;rcases h' with h|h|⟨h1,h2,h3⟩|⟨h1,h2,h3⟩
  all_goals
   go_enter Try.func126,Try.ntmps126;go_wp2_with (first|(go_at_call 51;first|(refine(bF _ _ _ _ (by omega) (by omega)).mono ?_;rintro e w' ⟨rfl,rfl⟩)|(refine(bS _ _ _ _ (by omega)).mono ?_;rintro e w' ⟨rfl,rfl⟩)));go_ret;exact⟨rfl,rfl⟩
theorem GH (n k:Int) (w:World):Calls Try.prog 125 #[.int .i64 n,.int .i64 k] w fun e w'=>e= .returned (.int .i64 (dA n k))∧w'=w:=by
 by_cases h:0≤n∧n≤60∧0≤k∧k≤n
 ·rw[←uO h.1 h.2.1 h.2.2.1 h.2.2.2];obtain⟨h1,h2,h3,h4⟩:=h;go_enter Try.func125,Try.ntmps125;go_wp2_with (first|(go_at_call 51;first|(refine(bF _ _ _ _ (by omega) (by omega)).mono ?_;rintro e w' ⟨rfl,rfl⟩)|(refine(bS _ _ _ _ (by omega)).mono ?_;rintro e w' ⟨rfl,rfl⟩))|(go_at_call 126;refine(JU _ _ _).mono ?_;rintro e w' ⟨rfl,rfl⟩)|(go_at_call 103;refine(LU _ _).mono ?_;rintro e w' ⟨rfl,rfl⟩)|(go_at_call 138;refine(NF _ _ _).mono ?_;rintro e w' ⟨rfl,rfl⟩));go_ret;exact⟨rfl,rfl⟩
 ·rw[uP h];have h':n<0∨60<n∨(0≤n∧n≤60∧k<0)∨(0≤n∧n≤60∧0≤k∧n<k):=by omega
  clear h;rcases h' with h|h|⟨h1,h2,h3⟩|⟨h1,h2,h3,h4⟩
  all_goals
   go_enter Try.func125,Try.ntmps125;go_wp2_with (first|(go_at_call 51;first|(refine(bF _ _ _ _ (by omega) (by omega)).mono ?_;rintro e w' ⟨rfl,rfl⟩)|(refine(bS _ _ _ _ (by omega)).mono ?_;rintro e w' ⟨rfl,rfl⟩)));go_ret;exact⟨rfl,rfl⟩
structure M where
 x:Int
 y:Int
 d:Int
 e:Int
def M.ok (m:M):Bool:=decide (0≤m.x∧m.x≤15∧0≤m.y∧m.y≤15∧0≤m.d∧m.d≤15∧0≤m.e∧m.e≤15)
theorem M.ok_iff {m:M}:m.ok=true↔0≤m.x∧m.x≤15∧0≤m.y∧m.y≤15∧0≤m.d∧m.d≤15∧0≤m.e∧m.e≤15:=by simp[M.ok]
theorem M.ok_not {m:M}:m.ok=false↔¬(0≤m.x∧m.x≤15∧0≤m.y∧m.y≤15∧0≤m.d∧m.d≤15∧0≤m.e∧m.e≤15):=by rw[←M.ok_iff];simp
def M.deg (m:M):Int:=if m.ok then m.x+m.y+m.d+m.e else 0
def c3 (a b:Int):Int:=if a<b then -1 else if b<a then 1 else 0
def M.lex (a b:M):Int:=if a.d≠b.d then c3 a.d b.d else if a.e≠b.e then c3 a.e b.e else if a.x≠b.x then c3 a.x b.x else c3 a.y b.y
def M.ord (o:Int) (a b:M):Int:=
 if o=1∧a.deg≠b.deg then c3 a.deg b.deg else if o=3∧a.d+a.x≠b.d+b.x then c3 (a.d+a.x) (b.d+b.x)else M.lex a b
def M.cmp (o:Int) (a b:M):Int:=if(1≤o∧o≤3)∧a.ok=true∧b.ok=true then M.ord o a b else 0
def M.zero:M:=⟨0,0,0,0⟩
def M.sum (a b:M):M:=⟨a.x+b.x,a.y+b.y,a.d+b.d,a.e+b.e⟩
def M.mul (a b:M):M×Bool:=if a.ok=true∧b.ok=true∧(a.sum b).ok=true then(a.sum b,true)else(M.zero,false)
def M.dvd (a b:M):Bool:=a.ok&&b.ok&&decide (a.x≤b.x∧a.y≤b.y∧a.d≤b.d∧a.e≤b.e)
def M.diff (b a:M):M:=⟨b.x-a.x,b.y-a.y,b.d-a.d,b.e-a.e⟩
def M.over (b a:M):M×Bool:=if a.dvd b=true then(b.diff a,true)else(M.zero,false)
def mx (a b:Int):Int:=if b<a then a else b
def M.both (a b:M):M:=if a.ok=true∧b.ok=true then⟨mx a.x b.x,mx a.y b.y,mx a.d b.d,mx a.e b.e⟩else M.zero
theorem aA {p:Prop} (h:p):Hid p:=h
theorem aO {W w1:World} (hb:Below W.heap.size W w1):(∀b o,b<W.heap.size→w1.cell? ⟨b,o,none⟩=W.cell? ⟨b,o,none⟩)∧(∀b o,b<W.heap.size→w1.frozen? ⟨b,o,none⟩=W.frozen? ⟨b,o,none⟩):=
 ⟨fun b o h=>hb.cell (p:=⟨b,o,none⟩) h,fun b o h=>hb.frozen (p:=⟨b,o,none⟩) h⟩
theorem gB (x y d e:Int) (w:World):Calls Try.prog 59 #[.agg #[.int .i64 x,.int .i64 y,.int .i64 d,.int .i64 e]] w fun r w'=>r= .returned (.bool (M.ok ⟨x,y,d,e⟩))∧Below w.heap.size w w':=by
 by_cases hx:0≤x∧x≤15
 ·by_cases hy:0≤y∧y≤15
  ·by_cases hd:0≤d∧d≤15
   ·by_cases he:0≤e∧e≤15
    ·rw[M.ok_iff.2 ⟨hx.1,hx.2,hy.1,hy.2,hd.1,hd.2,he.1,he.2⟩];obtain⟨x1,x2⟩:=hx;obtain⟨y1,y2⟩:=hy;obtain⟨d1,d2⟩:=hd;obtain⟨e1,e2⟩:=he;go_enter Try.func59,Try.ntmps59;go_wp2_with (first|(go_at_call 51;first|(refine(bF _ _ _ _ (by omega) (by omega)).mono ?_;rintro e w' ⟨rfl,rfl⟩)|(refine(bS _ _ _ _ (by omega)).mono ?_;rintro e w' ⟨rfl,rfl⟩)));go_ret;exact⟨rfl,(cM _ _).alloc (Nat.le_refl _) _⟩
    ·rw[M.ok_not.2 (fun h=>he ⟨h.2.2.2.2.2.2.1,h.2.2.2.2.2.2.2⟩)];go_enter Try.func59,Try.ntmps59;go_wp2_with (first|(go_at_call 51;first|(refine(bF _ _ _ _ (by omega) (by omega)).mono ?_;rintro e w' ⟨rfl,rfl⟩)|(refine(bS _ _ _ _ (by omega)).mono ?_;rintro e w' ⟨rfl,rfl⟩)));go_ret;exact⟨rfl,(cM _ _).alloc (Nat.le_refl _) _⟩
   ·rw[M.ok_not.2 (fun h=>hd ⟨h.2.2.2.2.1,h.2.2.2.2.2.1⟩)];go_enter Try.func59,Try.ntmps59;go_wp2_with (first|(go_at_call 51;first|(refine(bF _ _ _ _ (by omega) (by omega)).mono ?_;rintro e w' ⟨rfl,rfl⟩)|(refine(bS _ _ _ _ (by omega)).mono ?_;rintro e w' ⟨rfl,rfl⟩)));go_ret;exact⟨rfl,(cM _ _).alloc (Nat.le_refl _) _⟩
  ·rw[M.ok_not.2 (fun h=>hy ⟨h.2.2.1,h.2.2.2.1⟩)];go_enter Try.func59,Try.ntmps59;go_wp2_with (first|(go_at_call 51;first|(refine(bF _ _ _ _ (by omega) (by omega)).mono ?_;rintro e w' ⟨rfl,rfl⟩)|(refine(bS _ _ _ _ (by omega)).mono ?_;rintro e w' ⟨rfl,rfl⟩)));go_ret;exact⟨rfl,(cM _ _).alloc (Nat.le_refl _) _⟩
 ·rw[M.ok_not.2 (fun h=>hx ⟨h.1,h.2.1⟩)];go_enter Try.func59,Try.ntmps59;go_wp2_with (first|(go_at_call 51;first|(refine(bF _ _ _ _ (by omega) (by omega)).mono ?_;rintro e w' ⟨rfl,rfl⟩)|(refine(bS _ _ _ _ (by omega)).mono ?_;rintro e w' ⟨rfl,rfl⟩)));go_ret;exact⟨rfl,(cM _ _).alloc (Nat.le_refl _) _⟩
theorem aW {x y d e:Int} {b:Bool} (h:M.ok ⟨x,y,d,e⟩=b) (w:World):Calls Try.prog 59 #[.agg #[.int .i64 x,.int .i64 y,.int .i64 d,.int .i64 e]] w fun r w'=>r= .returned (.bool b)∧Below w.heap.size w w':=by rw[←h];exact gB x y d e w
theorem kZ (x y d e:Int) (w:World):Calls Try.prog 90 #[.agg #[.int .i64 x,.int .i64 y,.int .i64 d,.int .i64 e]] w fun r w'=>r= .returned (.int .i64 (M.deg ⟨x,y,d,e⟩))∧Below w.heap.size w w':=by
 cases h:M.ok ⟨x,y,d,e⟩
 ·have hd:M.deg ⟨x,y,d,e⟩=0:=by simp[M.deg,h]
  rw[hd];go_enter Try.func90,Try.ntmps90;go_wp2_with fail;refine(gB _ _ _ _ _).mono ?_;rw[h];rintro r w1 ⟨rfl,hb⟩;go_wp2;go_ret;exact⟨rfl,(cM _ _).trans (((cM _ _).alloc (Nat.le_refl _) _).trans (hb.mono (by simp)))⟩
 ·have hd:M.deg ⟨x,y,d,e⟩=x+y+d+e:=by simp[M.deg,h]
  rw[hd];obtain⟨x1,x2,y1,y2,d1,d2,e1,e2⟩:=M.ok_iff.1 h;simp only at x1 x2 y1 y2 d1 d2 e1 e2;go_enter Try.func90,Try.ntmps90;go_wp2_with fail;refine(gB _ _ _ _ _).mono ?_;rw[h];rintro r w1 ⟨rfl,hb⟩;obtain⟨hc,hf⟩:=aO hb;go_wp2;go_ret;exact⟨rfl,((cM _ _).alloc (Nat.le_refl _) _).trans (hb.mono (by simp))⟩
theorem wT (a b:Int) (w:World):Calls Try.prog 91 #[.int .i64 a,.int .i64 b] w fun r w'=>r= .returned (.int .i64 (c3 a b))∧w'=w:=by
 by_cases h1:a<b
 ·have e1:c3 a b= -1:=by simp[c3,h1]
  rw[e1];go_enter Try.func91,Try.ntmps91;go_wp2;go_ret;exact⟨rfl,rfl⟩
 ·by_cases h2:b<a
  ·have e1:c3 a b=1:=by simp[c3,h1,h2]
   rw[e1];go_enter Try.func91,Try.ntmps91;go_wp2;go_ret;exact⟨rfl,rfl⟩
  ·have e1:c3 a b=0:=by simp[c3,h1,h2]
   rw[e1];go_enter Try.func91,Try.ntmps91;go_wp2;go_ret;exact⟨rfl,rfl⟩
theorem IB (x y d e x' y' d' e':Int) (w:World):Calls Try.prog 92 #[.agg #[.int .i64 x,.int .i64 y,.int .i64 d,.int .i64 e],.agg #[.int .i64 x',.int .i64 y',.int .i64 d',.int .i64 e']] w fun r w'=>r= .returned (.int .i64 (M.lex ⟨x,y,d,e⟩ ⟨x',y',d',e'⟩))∧Below w.heap.size w w':=by
 by_cases hd:d=d'
 ·by_cases he:e=e'
  ·by_cases hx:x=x'
   ·have e1:M.lex ⟨x,y,d,e⟩ ⟨x',y',d',e'⟩=c3 y y':=by simp[M.lex,hd,he,hx]
    rw[e1];have b1:(d !=d')=false:=by simp[hd]
    have b2:(e !=e')=false:=by simp[he]
    have b3:(x !=x')=false:=by simp[hx]
    clear hd he hx e1;go_enter Try.func92,Try.ntmps92;go_wp2_with (first|(go_at_call 91;refine(wT _ _ _).mono ?_;rintro r w' ⟨rfl,rfl⟩));go_ret;exact⟨rfl,((cM _ _).alloc (Nat.le_refl _) _).alloc (by simp) _⟩
   ·have e1:M.lex ⟨x,y,d,e⟩ ⟨x',y',d',e'⟩=c3 x x':=by simp[M.lex,hd,he,hx]
    rw[e1];have b1:(d !=d')=false:=by simp[hd]
    have b2:(e !=e')=false:=by simp[he]
    have b3:(x !=x')=true:=by simp[hx]
    clear hd he hx e1;go_enter Try.func92,Try.ntmps92;go_wp2_with (first|(go_at_call 91;refine(wT _ _ _).mono ?_;rintro r w' ⟨rfl,rfl⟩));go_ret;exact⟨rfl,((cM _ _).alloc (Nat.le_refl _) _).alloc (by simp) _⟩
  ·have e1:M.lex ⟨x,y,d,e⟩ ⟨x',y',d',e'⟩=c3 e e':=by simp[M.lex,hd,he]
   rw[e1];have b1:(d !=d')=false:=by simp[hd]
   have b2:(e !=e')=true:=by simp[he]
   clear hd he e1;go_enter Try.func92,Try.ntmps92;go_wp2_with (first|(go_at_call 91;refine(wT _ _ _).mono ?_;rintro r w' ⟨rfl,rfl⟩));go_ret;exact⟨rfl,((cM _ _).alloc (Nat.le_refl _) _).alloc (by simp) _⟩
 ·have e1:M.lex ⟨x,y,d,e⟩ ⟨x',y',d',e'⟩=c3 d d':=by simp[M.lex,hd]
  rw[e1];have b1:(d !=d')=true:=by simp[hd]
  clear hd e1;go_enter Try.func92,Try.ntmps92;go_wp2_with (first|(go_at_call 91;refine(wT _ _ _).mono ?_;rintro r w' ⟨rfl,rfl⟩));go_ret;exact⟨rfl,((cM _ _).alloc (Nat.le_refl _) _).alloc (by simp) _⟩
theorem aB {w W W':World} (a:Below w.heap.size w W) (h:Below W.heap.size W W'):Below w.heap.size w W':=a.trans (h.mono a.size)
theorem aS (w:World) (A B:Obj):Below w.heap.size w ((w.alloc A).alloc B):=((cM _ _).alloc (Nat.le_refl _) _).alloc (by simp) _
theorem cO (w:World) (A B C:Obj):Below w.heap.size w (((w.alloc A).alloc B).alloc C):=(aS w A B).alloc (aS w A B).size _
theorem eN {n B:Nat} {a w:World} (h:Below n a w) (hB:n≤B) (u0 u1 u2 u3:Value):Below n a ((((w.setCell ⟨B,0,none⟩ u0).setCell ⟨B,1,none⟩ u1).setCell ⟨B,2,none⟩ u2).setCell ⟨B,3,none⟩ u3):=
 (((h.setCell hB u0).setCell hB u1).setCell hB u2).setCell hB u3
theorem zI (x y d e x' y' d' e':Int) (w:World):Calls Try.prog 60 #[.int .i64 1,.agg #[.int .i64 x,.int .i64 y,.int .i64 d,.int .i64 e],.agg #[.int .i64 x',.int .i64 y',.int .i64 d',.int .i64 e']] w fun r w'=>r= .returned (.int .i64 (M.ord 1 ⟨x,y,d,e⟩ ⟨x',y',d',e'⟩))∧Below w.heap.size w w':=by
 by_cases hd:M.deg ⟨x,y,d,e⟩=M.deg ⟨x',y',d',e'⟩
 ·have e1:M.ord 1 ⟨x,y,d,e⟩ ⟨x',y',d',e'⟩=M.lex ⟨x,y,d,e⟩ ⟨x',y',d',e'⟩:=by simp[M.ord,hd]
  rw[e1];have b1:(M.deg ⟨x,y,d,e⟩!=M.deg ⟨x',y',d',e'⟩)=false:=by simp[hd]
  clear hd e1;go_enter Try.func60,Try.ntmps60;go_wp2_with fail
  go_region_held3 (fun u=>u.cell? ⟨w.heap.size,0,none⟩=some (.int .i64 x)∧u.cell? ⟨w.heap.size,1,none⟩=some (.int .i64 y)∧u.cell? ⟨w.heap.size,2,none⟩=some (.int .i64 d)∧u.cell? ⟨w.heap.size,3,none⟩=some (.int .i64 e)∧u.cell? ⟨w.heap.size+1,0,none⟩=some (.int .i64 x')∧u.cell? ⟨w.heap.size+1,1,none⟩=some (.int .i64 y')∧u.cell? ⟨w.heap.size+1,2,none⟩=some (.int .i64 d')∧u.cell? ⟨w.heap.size+1,3,none⟩=some (.int .i64 e')) ((go_light;first|(refine⟨?_,?_,?_,?_,?_,?_,?_,?_⟩<;>(simp only[(aO hb4).1 _ _ hz3,(aO hb4).1 _ _ hy3, *];done))|(refine⟨?_,?_,?_,?_,?_,?_,?_,?_⟩<;>(simp only[(aO hb3).1 _ _ hz2,(aO hb3).1 _ _ hy2, *];done))|(refine⟨?_,?_,?_,?_,?_,?_,?_,?_⟩<;>(simp only[(aO hb2).1 _ _ hz1,(aO hb2).1 _ _ hy1, *];done))|(have hc:=(aO hb1).1;refine⟨?_,?_,?_,?_,?_,?_,?_,?_⟩<;>go_simp<;>done)|(refine⟨?_,?_,?_,?_,?_,?_,?_,?_⟩<;>go_simp<;>done))) (first|(go_at_call_of 90 (Value.int IntKind.i64 x);refine(kZ x y d e _).mono ?_;rintro r w1 ⟨rfl,hb1⟩;have hz1:w.heap.size<w1.heap.size:=(by have:=hb1.size;first|omega|(simp at this;omega));have hy1:w.heap.size+1<w1.heap.size:=(by have:=hb1.size;first|omega|(simp at this;omega)))|(go_at_call_of 90 (Value.int IntKind.i64 x');refine(kZ x' y' d' e' _).mono ?_;rintro r w2 ⟨rfl,hb2⟩;have hz2:w.heap.size<w2.heap.size:=(by have:=hb2.size;first|omega|(simp at this;omega));have hy2:w.heap.size+1<w2.heap.size:=(by have:=hb2.size;first|omega|(simp at this;omega))))
  go_wp2_with (first|(go_at_call 92;refine(IB x y d e x' y' d' e' _).mono ?_;rintro r w5 ⟨rfl,hb5⟩));go_ret;exact⟨rfl,aB (aB (aB (aS w _ _).drew hb1) hb2) hb5⟩
 ·have e1:M.ord 1 ⟨x,y,d,e⟩ ⟨x',y',d',e'⟩=c3 (M.deg ⟨x,y,d,e⟩) (M.deg ⟨x',y',d',e'⟩):=by simp[M.ord,hd]
  rw[e1];have b1:(M.deg ⟨x,y,d,e⟩!=M.deg ⟨x',y',d',e'⟩)=true:=by simp[hd]
  clear hd e1;go_enter Try.func60,Try.ntmps60;go_wp2_with fail
  go_region_held3 (fun u=>u.cell? ⟨w.heap.size,0,none⟩=some (.int .i64 x)∧u.cell? ⟨w.heap.size,1,none⟩=some (.int .i64 y)∧u.cell? ⟨w.heap.size,2,none⟩=some (.int .i64 d)∧u.cell? ⟨w.heap.size,3,none⟩=some (.int .i64 e)∧u.cell? ⟨w.heap.size+1,0,none⟩=some (.int .i64 x')∧u.cell? ⟨w.heap.size+1,1,none⟩=some (.int .i64 y')∧u.cell? ⟨w.heap.size+1,2,none⟩=some (.int .i64 d')∧u.cell? ⟨w.heap.size+1,3,none⟩=some (.int .i64 e')) ((go_light;first|(refine⟨?_,?_,?_,?_,?_,?_,?_,?_⟩<;>(simp only[(aO hb4).1 _ _ hz3,(aO hb4).1 _ _ hy3, *];done))|(refine⟨?_,?_,?_,?_,?_,?_,?_,?_⟩<;>(simp only[(aO hb3).1 _ _ hz2,(aO hb3).1 _ _ hy2, *];done))|(refine⟨?_,?_,?_,?_,?_,?_,?_,?_⟩<;>(simp only[(aO hb2).1 _ _ hz1,(aO hb2).1 _ _ hy1, *];done))|(have hc:=(aO hb1).1;refine⟨?_,?_,?_,?_,?_,?_,?_,?_⟩<;>go_simp<;>done)|(refine⟨?_,?_,?_,?_,?_,?_,?_,?_⟩<;>go_simp<;>done))) (first|(go_at_call_of 90 (Value.int IntKind.i64 x);refine(kZ x y d e _).mono ?_;rintro r w1 ⟨rfl,hb1⟩;have hz1:w.heap.size<w1.heap.size:=(by have:=hb1.size;first|omega|(simp at this;omega));have hy1:w.heap.size+1<w1.heap.size:=(by have:=hb1.size;first|omega|(simp at this;omega)))|(go_at_call_of 90 (Value.int IntKind.i64 x');refine(kZ x' y' d' e' _).mono ?_;rintro r w2 ⟨rfl,hb2⟩;have hz2:w.heap.size<w2.heap.size:=(by have:=hb2.size;first|omega|(simp at this;omega));have hy2:w.heap.size+1<w2.heap.size:=(by have:=hb2.size;first|omega|(simp at this;omega))))
  go_wp2_with fail
  go_region_held3 (fun u=>u.cell? ⟨w.heap.size,0,none⟩=some (.int .i64 x)∧u.cell? ⟨w.heap.size,1,none⟩=some (.int .i64 y)∧u.cell? ⟨w.heap.size,2,none⟩=some (.int .i64 d)∧u.cell? ⟨w.heap.size,3,none⟩=some (.int .i64 e)∧u.cell? ⟨w.heap.size+1,0,none⟩=some (.int .i64 x')∧u.cell? ⟨w.heap.size+1,1,none⟩=some (.int .i64 y')∧u.cell? ⟨w.heap.size+1,2,none⟩=some (.int .i64 d')∧u.cell? ⟨w.heap.size+1,3,none⟩=some (.int .i64 e')) ((go_light;first|(refine⟨?_,?_,?_,?_,?_,?_,?_,?_⟩<;>(simp only[(aO hb4).1 _ _ hz3,(aO hb4).1 _ _ hy3, *];done))|(refine⟨?_,?_,?_,?_,?_,?_,?_,?_⟩<;>(simp only[(aO hb3).1 _ _ hz2,(aO hb3).1 _ _ hy2, *];done))|(refine⟨?_,?_,?_,?_,?_,?_,?_,?_⟩<;>(simp only[(aO hb2).1 _ _ hz1,(aO hb2).1 _ _ hy1, *];done))|(have hc:=(aO hb1).1;refine⟨?_,?_,?_,?_,?_,?_,?_,?_⟩<;>go_simp<;>done)|(refine⟨?_,?_,?_,?_,?_,?_,?_,?_⟩<;>go_simp<;>done))) (first|(go_at_call_of 90 (Value.int IntKind.i64 x);refine(kZ x y d e _).mono ?_;rintro r w3 ⟨rfl,hb3⟩;have hz3:w.heap.size<w3.heap.size:=(by have:=hb3.size;first|omega|(simp at this;omega));have hy3:w.heap.size+1<w3.heap.size:=(by have:=hb3.size;first|omega|(simp at this;omega)))|(go_at_call_of 90 (Value.int IntKind.i64 x');refine(kZ x' y' d' e' _).mono ?_;rintro r w4 ⟨rfl,hb4⟩;have hz4:w.heap.size<w4.heap.size:=(by have:=hb4.size;first|omega|(simp at this;omega));have hy4:w.heap.size+1<w4.heap.size:=(by have:=hb4.size;first|omega|(simp at this;omega)))|(go_at_call 91;refine(wT _ _ _).mono ?_;rintro r w' ⟨rfl,rfl⟩))
  go_wp2;go_ret;exact⟨rfl,aB (aB (aB (aB (aS w _ _).drew hb1) hb2).drew hb3) hb4⟩
theorem ME (o:Int) (x y d e x' y' d' e':Int) (w:World) (h1:o≠1) (h3:o≠3):Calls Try.prog 60 #[.int .i64 o,.agg #[.int .i64 x,.int .i64 y,.int .i64 d,.int .i64 e],.agg #[.int .i64 x',.int .i64 y',.int .i64 d',.int .i64 e']] w fun r w'=>r= .returned (.int .i64 (M.ord o ⟨x,y,d,e⟩ ⟨x',y',d',e'⟩))∧Below w.heap.size w w':=by
 have e1:M.ord o ⟨x,y,d,e⟩ ⟨x',y',d',e'⟩=M.lex ⟨x,y,d,e⟩ ⟨x',y',d',e'⟩:=by simp[M.ord,h1,h3]
 rw[e1];have b1:(o==1)=false:=by simp[h1]
 have b3:(o==3)=false:=by simp[h3]
 clear e1 h1 h3;go_enter Try.func60,Try.ntmps60;go_wp2_with fail
 go_region
 all_goals
  go_wp2_with (first|(go_at_call 92;refine(IB x y d e x' y' d' e' _).mono ?_;rintro r w5 ⟨rfl,hb5⟩));go_ret;exact⟨rfl,aB (aS w _ _).drew hb5⟩
theorem MF (x y d e x' y' d' e':Int) (w:World) (ha:M.ok ⟨x,y,d,e⟩=true) (hb:M.ok ⟨x',y',d',e'⟩=true):Calls Try.prog 60 #[.int .i64 3,.agg #[.int .i64 x,.int .i64 y,.int .i64 d,.int .i64 e],.agg #[.int .i64 x',.int .i64 y',.int .i64 d',.int .i64 e']] w fun r w'=>r= .returned (.int .i64 (M.ord 3 ⟨x,y,d,e⟩ ⟨x',y',d',e'⟩))∧Below w.heap.size w w':=by
 obtain⟨x1,x2,y1,y2,d1,d2,e1,e2⟩:=M.ok_iff.1 ha;obtain⟨x3,x4,y3,y4,d3,d4,e3,e4⟩:=M.ok_iff.1 hb;simp only at x1 x2 y1 y2 d1 d2 e1 e2 x3 x4 y3 y4 d3 d4 e3 e4;clear ha hb;by_cases hs:d+x=d'+x'
 ·have r1:M.ord 3 ⟨x,y,d,e⟩ ⟨x',y',d',e'⟩=M.lex ⟨x,y,d,e⟩ ⟨x',y',d',e'⟩:=by simp[M.ord,hs]
  rw[r1];have b1:(d+x !=d'+x')=false:=by simp[hs]
  clear hs r1;go_enter Try.func60,Try.ntmps60;go_wp2_with fail
  go_region
  all_goals
   go_wp2_with (first|(go_at_call 92;refine(IB x y d e x' y' d' e' _).mono ?_;rintro r w5 ⟨rfl,hb5⟩)|(go_at_call 91;refine(wT _ _ _).mono ?_;rintro r w' ⟨rfl,rfl⟩));go_ret;exact⟨rfl,aB (aS w _ _).drew hb5⟩
 ·have r1:M.ord 3 ⟨x,y,d,e⟩ ⟨x',y',d',e'⟩=c3 (d+x) (d'+x'):=by simp[M.ord,hs]
  rw[r1];have b1:(d+x !=d'+x')=true:=by simp[hs]
  clear hs r1;go_enter Try.func60,Try.ntmps60;go_wp2_with fail
  go_region
  all_goals
   go_wp2_with (first|(go_at_call 92;refine(IB x y d e x' y' d' e' _).mono ?_;rintro r w5 ⟨rfl,hb5⟩)|(go_at_call 91;refine(wT _ _ _).mono ?_;rintro r w' ⟨rfl,rfl⟩));go_ret;exact⟨rfl,(aS w _ _).drew⟩
theorem MD (o:Int) (x y d e x' y' d' e':Int) (w:World) (h:o=3→M.ok ⟨x,y,d,e⟩=true∧M.ok ⟨x',y',d',e'⟩=true):Calls Try.prog 60 #[.int .i64 o,.agg #[.int .i64 x,.int .i64 y,.int .i64 d,.int .i64 e],.agg #[.int .i64 x',.int .i64 y',.int .i64 d',.int .i64 e']] w fun r w'=>r= .returned (.int .i64 (M.ord o ⟨x,y,d,e⟩ ⟨x',y',d',e'⟩))∧Below w.heap.size w w':=by
 by_cases h1:o=1
 ·subst h1;exact zI x y d e x' y' d' e' w
 ·by_cases h3:o=3
  ·subst h3;exact MF x y d e x' y' d' e' w (h rfl).1 (h rfl).2
  ·exact ME o x y d e x' y' d' e' w h1 h3
theorem zD (x y d e x' y' d' e':Int) (w:World):Calls Try.prog 110 #[.agg #[.int .i64 x,.int .i64 y,.int .i64 d,.int .i64 e],.agg #[.int .i64 x',.int .i64 y',.int .i64 d',.int .i64 e']] w fun r w'=>r= .returned (.tuple #[.agg #[.int .i64 (M.mul ⟨x,y,d,e⟩ ⟨x',y',d',e'⟩).1.x,.int .i64 (M.mul ⟨x,y,d,e⟩ ⟨x',y',d',e'⟩).1.y,.int .i64 (M.mul ⟨x,y,d,e⟩ ⟨x',y',d',e'⟩).1.d,.int .i64 (M.mul ⟨x,y,d,e⟩ ⟨x',y',d',e'⟩).1.e],.bool (M.mul ⟨x,y,d,e⟩ ⟨x',y',d',e'⟩).2])∧Below w.heap.size w w':=by
 cases ha:M.ok ⟨x,y,d,e⟩
 ·have r1:M.mul ⟨x,y,d,e⟩ ⟨x',y',d',e'⟩=(M.zero,false):=by simp[M.mul,ha]
  rw[r1];simp only[M.zero];go_enter Try.func110,Try.ntmps110;go_wp2_with fail;refine(gB _ _ _ _ _).mono ?_;rw[ha];rintro r w1 ⟨rfl,hb1⟩;obtain⟨hc1,hf1⟩:=aO hb1;have hz1:w.heap.size+1+1<w1.heap.size:=by have:=hb1.size;simp at this;omega
  go_wp2;refine cN (v:=.tuple #[.agg #[.int .i64 0,.int .i64 0,.int .i64 0,.int .i64 0],.bool false]) (by simp[results,Try.results110,go_sem, *]) rfl ⟨rfl,?_⟩;exact eN (aB (cO w _ _ _) hb1) (by omega) _ _ _ _
 ·cases hb:M.ok ⟨x',y',d',e'⟩
  ·have r1:M.mul ⟨x,y,d,e⟩ ⟨x',y',d',e'⟩=(M.zero,false):=by simp[M.mul,hb]
   rw[r1];simp only[M.zero];clear r1;go_enter Try.func110,Try.ntmps110;go_wp2_with fail;refine(gB _ _ _ _ _).mono ?_;rw[ha];rintro r w1 ⟨rfl,hb1⟩;obtain⟨hc1,hf1⟩:=aO hb1;have hz1:w.heap.size+1+1<w1.heap.size:=by have:=hb1.size;simp at this;omega
   go_wp2_with fail;refine(gB _ _ _ _ _).mono ?_;rw[hb];rintro r w2 ⟨rfl,hb2⟩;obtain⟨hc2,hf2⟩:=aO hb2;have hz2:w.heap.size+1+1<w2.heap.size:=by have:=hb2.size;omega
   go_wp2;refine cN (v:=.tuple #[.agg #[.int .i64 0,.int .i64 0,.int .i64 0,.int .i64 0],.bool false]) (by simp[results,Try.results110,go_sem, *]) rfl ⟨rfl,?_⟩;exact eN (aB (aB (cO w _ _ _) hb1) hb2) (by omega) _ _ _ _
  ·obtain⟨x1,x2,y1,y2,d1,d2,e1,e2⟩:=M.ok_iff.1 ha;obtain⟨x3,x4,y3,y4,d3,d4,e3,e4⟩:=M.ok_iff.1 hb;simp only at x1 x2 y1 y2 d1 d2 e1 e2 x3 x4 y3 y4 d3 d4 e3 e4;cases hs:M.ok ⟨x+x',y+y',d+d',e+e'⟩
   ·have r1:M.mul ⟨x,y,d,e⟩ ⟨x',y',d',e'⟩=(M.zero,false):=by simp[M.mul,M.sum,hs]
    rw[r1];simp only[M.zero];clear r1;go_enter Try.func110,Try.ntmps110;go_wp2_with fail;refine(gB _ _ _ _ _).mono ?_;rw[ha];rintro r w1 ⟨rfl,hb1⟩;obtain⟨hc1,hf1⟩:=aO hb1;have hz1:w.heap.size+1+1<w1.heap.size:=by have:=hb1.size;simp at this;omega
    have hz0:w.heap.size+1<w1.heap.size:=by omega
    have hzz:w.heap.size<w1.heap.size:=by omega
    go_wp2_with fail;refine(gB _ _ _ _ _).mono ?_;rw[hb];rintro r w2 ⟨rfl,hb2⟩;obtain⟨hc2,hf2⟩:=aO hb2;have hz2:w.heap.size+1+1<w2.heap.size:=by have:=hb2.size;omega
    go_wp2_with fail;refine(gB _ _ _ _ _).mono ?_;rw[hs];rintro r w3 ⟨rfl,hb3⟩;obtain⟨hc3,hf3⟩:=aO (aB ((cM w2.heap.size w2).alloc (Nat.le_refl _) _) hb3);have ht:∀i,w3.cell? ⟨w2.heap.size,i,none⟩=#[Value.int .i64 (x+x'),.int .i64 (y+y'),.int .i64 (d+d'),.int .i64 (e+e')][i]? :=fun i=>by rw[hb3.cell (p:=⟨w2.heap.size,i,none⟩) (by simp),World.cell?_alloc_at _ _ _ _ rfl]
    have hB:=aB ((aB (aB (cO w _ _ _) hb1) hb2).alloc (aB (aB (cO w _ _ _) hb1) hb2).size _) hb3;go_wp2;refine cN (v:=.tuple #[.agg #[.int .i64 0,.int .i64 0,.int .i64 0,.int .i64 0],.bool false]) (by simp[results,Try.results110,go_sem, *]) rfl ⟨rfl,?_⟩;exact eN hB (by omega) _ _ _ _
   ·have r1:M.mul ⟨x,y,d,e⟩ ⟨x',y',d',e'⟩=(⟨x+x',y+y',d+d',e+e'⟩,true):=by simp[M.mul,M.sum,hs,ha,hb]
    rw[r1];clear r1;go_enter Try.func110,Try.ntmps110;go_wp2_with fail;refine(gB _ _ _ _ _).mono ?_;rw[ha];rintro r w1 ⟨rfl,hb1⟩;obtain⟨hc1,hf1⟩:=aO hb1;have hz1:w.heap.size+1+1<w1.heap.size:=by have:=hb1.size;simp at this;omega
    have hz0:w.heap.size+1<w1.heap.size:=by omega
    have hzz:w.heap.size<w1.heap.size:=by omega
    go_wp2_with fail;refine(gB _ _ _ _ _).mono ?_;rw[hb];rintro r w2 ⟨rfl,hb2⟩;obtain⟨hc2,hf2⟩:=aO hb2;have hz2:w.heap.size+1+1<w2.heap.size:=by have:=hb2.size;omega
    go_wp2_with fail;refine(gB _ _ _ _ _).mono ?_;rw[hs];rintro r w3 ⟨rfl,hb3⟩;obtain⟨hc3,hf3⟩:=aO (aB ((cM w2.heap.size w2).alloc (Nat.le_refl _) _) hb3);have ht:∀i,w3.cell? ⟨w2.heap.size,i,none⟩=#[Value.int .i64 (x+x'),.int .i64 (y+y'),.int .i64 (d+d'),.int .i64 (e+e')][i]? :=fun i=>by rw[hb3.cell (p:=⟨w2.heap.size,i,none⟩) (by simp),World.cell?_alloc_at _ _ _ _ rfl]
    have hB:=aB ((aB (aB (cO w _ _ _) hb1) hb2).alloc (aB (aB (cO w _ _ _) hb1) hb2).size _) hb3;go_wp2;refine cN (v:=.tuple #[.agg #[.int .i64 (x+x'),.int .i64 (y+y'),.int .i64 (d+d'),.int .i64 (e+e')],.bool true]) (by simp[results,Try.results110,go_sem, *]) rfl ⟨rfl,?_⟩;exact eN hB (by omega) _ _ _ _
end Go.Proofs.Ytbkighpmkadmmaa
