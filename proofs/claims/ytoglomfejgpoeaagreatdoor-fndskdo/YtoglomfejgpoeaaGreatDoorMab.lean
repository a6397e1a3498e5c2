/-
  More of chapter 2's model: what divides, what is left, what both divide.
-/
import Derived.Test.YtoglomfejgpoeaaGreatDoorMaa
import Derived.Deep.QuietTactic
import Derived.BigQuiet
import Derived.Lib.ItoaNum
import Derived.Lib.UnsafeStr
import Derived.WalkSmall
import Derived.Lib.Join
import Derived.Lib.LaidTab
import Derived.Lib.AppendIntMem
import Derived.Shelf.Lay
import Derived.Shelf.Strconv.Itoa3
import Derived.Shelf.Strings.OnBuilder
import Derived.Ground.NamesProg
import Derived.Lib.Strings
import Derived.Lib.AtoiAll
import Derived.Lib.AtoiTie
import Derived.ProofKit
import Derived.Deep.OwnRows
set_option maxHeartbeats 4000000
namespace Go.Proofs.YtoglomfejgpoeaaGreatDoor
open Go.RowKit
set_option linter.unusedVariables false
def cO (w:World):Type:=Subtype (fun u:World=>Below w.heap.size w u)
theorem cO.there (w:World):Nonempty (cO w):=⟨⟨w,aD _ _⟩⟩
theorem cO.cell {w:World} (x:cO w) {b o:Nat} (h:b<w.heap.size):x.1.cell? ⟨b,o,none⟩=w.cell? ⟨b,o,none⟩:=x.2.cell (p:=⟨b,o,none⟩) h
theorem aS {P:Program} {id:Nat} {Q:Exit→Act→World→Prop} {a:Act} {w:World} {l:List Oper} (hm:P.follows .mixedOrders=true) (hB:Region.lexB .any l.toArray=true) (h:wpQuiet P l.toArray (fun u=>∃x:cO w,u=x.1) (fun a'=>∀w',(∃x:cO w,w'=x.1)→Q .normal a' w') l a):(Code.region id l.toArray true).wp P Q a w:=
 wp_region_quiet (C:=fun u=>∃x:cO w,u=x.1) hm hB ⟨⟨_,(aD _ _).drew⟩,rfl⟩ (by simpa using h)
theorem fC {P:Program} {f:FuncId} {args:Array Value} {w:World} {x:cO w} {v:Value} (h:Calls P f args x.1 fun e w'=>e= .returned v∧w'=x.1):Calls P f args x.1 fun e w''=>e= .returned v∧∃y:cO w,w''=y.1:=
 h.mono fun _ _ ⟨he,hm⟩=>⟨he,x,hm⟩
theorem bK {P:Program} {f:FuncId} {args:Array Value} {w:World} {x:cO w} {v:Value} (h:Calls P f args x.1 fun e w'=>e= .returned v∧Below x.1.heap.size x.1 w'):Calls P f args x.1 fun e w''=>e= .returned v∧∃y:cO w,w''=y.1:=
 h.mono fun _ w' ⟨he,hm⟩=>⟨he,⟨w',x.2.trans (hm.mono x.2.size)⟩,rfl⟩
theorem aG (w:World) (A:Obj):Below w.heap.size w (w.alloc A):=(aD _ _).alloc (Nat.le_refl _) _
theorem lH {w:World} {t:TypeId} (A:Array Value) (i:Nat) (v:Value) (h:A[i]? =some v):∀u:cO (w.alloc (.cells A t)),u.1.cell? ⟨w.heap.size,i,none⟩=some v:=fun u=>by
 rw[u.cell (by simp),World.cell?_alloc_at _ _ _ _ rfl];exact h
theorem vP (x y d e:Int) (w:World):Calls Tryz.prog 126 #[.agg #[.int .i64 x,.int .i64 y,.int .i64 d,.int .i64 e]] w fun r w'=>r= .returned (.agg #[.int .i64 x,.int .i64 y,.int .i64 d,.int .i64 e])∧Below w.heap.size w w':=by go_enter Tryz.func126,Tryz.ntmps126;go_wp2;refine bT (v:=.agg #[.int .i64 x,.int .i64 y,.int .i64 d,.int .i64 e]) (by simp[results,Tryz.results126,go_sem]) rfl ⟨rfl,?_⟩;exact cW w _ _
theorem DD (x y d e:Int) (w:World) (h:M.ok ⟨x,y,d,e⟩=true):Calls Tryz.prog 131 #[.agg #[.int .i64 x,.int .i64 y,.int .i64 d,.int .i64 e]] w fun r w'=>r= .returned (.int .i64 (x+y+d+e))∧Below w.heap.size w w':=by obtain⟨x1,x2,y1,y2,d1,d2,e1,e2⟩:=M.ok_iff.1 h;simp only at x1 x2 y1 y2 d1 d2 e1 e2;clear h;go_enter Tryz.func131,Tryz.ntmps131;go_wp2;go_ret;exact⟨rfl,aG w _⟩
def jE (m:M):Int:=((m.d*16+m.e)*16+m.x)*16+m.y
def dV (m:M):Int:=(m.x+m.y+m.d+m.e)*65536+jE m
theorem BI (x y d e:Int) (w:World) (h:M.ok ⟨x,y,d,e⟩=true):Calls Tryz.prog 132 #[.agg #[.int .i64 x,.int .i64 y,.int .i64 d,.int .i64 e]] w fun r w'=>r= .returned (.int .i64 (jE ⟨x,y,d,e⟩))∧Below w.heap.size w w':=by obtain⟨x1,x2,y1,y2,d1,d2,e1,e2⟩:=M.ok_iff.1 h;simp only at x1 x2 y1 y2 d1 d2 e1 e2;clear h;simp only[jE];go_enter Tryz.func132,Tryz.ntmps132;go_wp2;go_ret;exact⟨rfl,aG w _⟩
theorem lW (x y d e:Int) (w:World) (h:M.ok ⟨x,y,d,e⟩=true):Calls Tryz.prog 91 #[.agg #[.int .i64 x,.int .i64 y,.int .i64 d,.int .i64 e]] w fun r w'=>r= .returned (.int .i64 (dV ⟨x,y,d,e⟩))∧Below w.heap.size w w':=by
 obtain⟨x1,x2,y1,y2,d1,d2,e1,e2⟩:=M.ok_iff.1 h;simp only at x1 x2 y1 y2 d1 d2 e1 e2;have HK:=aA h
 have k1:0≤jE ⟨x,y,d,e⟩:=by simp only[jE];omega
 have k2:jE ⟨x,y,d,e⟩≤65535:=by simp only[jE];omega
 have r1:dV ⟨x,y,d,e⟩=(x+y+d+e)*65536+jE ⟨x,y,d,e⟩:=rfl;rw[r1];clear h r1;go_enter Tryz.func91,Tryz.ntmps91;go_wp2_with fail;have B1:=aA (aG w (.cells #[.int .i64 x,.int .i64 y,.int .i64 d,.int .i64 e] 78))
 have ne:=cO.there (w.alloc (.cells #[.int .i64 x,.int .i64 y,.int .i64 d,.int .i64 e] 78));have s0:=lH (w:=w) (t:=78) #[.int .i64 x,.int .i64 y,.int .i64 d,.int .i64 e] 0 _ rfl
 have s1:=lH (w:=w) (t:=78) #[.int .i64 x,.int .i64 y,.int .i64 d,.int .i64 e] 1 _ rfl;have s2:=lH (w:=w) (t:=78) #[.int .i64 x,.int .i64 y,.int .i64 d,.int .i64 e] 2 _ rfl
 have s3:=lH (w:=w) (t:=78) #[.int .i64 x,.int .i64 y,.int .i64 d,.int .i64 e] 3 _ rfl;refine aS (by kernel_rfl) (by kernel_rfl) ?_;repeat(go_big_quiet_step (first|(go_at_call 131;exact bK (DD _ _ _ _ _ HK.out))|(go_at_call 132;exact bK (BI _ _ _ _ _ HK.out))))
 refine wpQuiet_nil ?_;rintro _ ⟨u,rfl⟩;go_wp2;go_ret;exact⟨rfl,B1.out.trans (u.2.mono B1.out.size)⟩
def pU (x y d e:Int):Nat→Int
 |0=>x
 |1=>y
 |2=>d
 |_=>e
theorem fZ (x y d e:Int) (w:World):Calls Tryz.prog 84 #[.agg #[.int .i64 x,.int .i64 y,.int .i64 d,.int .i64 e]] w fun r w'=>r= .returned (.bool (M.ok ⟨x,y,d,e⟩))∧Below w.heap.size w w':=by
 have i0:∀w:World,(Instr.index 151 (.agg #[.int .i64 x,.int .i64 y,.int .i64 d,.int .i64 e]) (.int .i64 0)).run Tryz.prog w= .ok (.int .i64 x) w:=fun _=>by kernel_rfl
 have i1:∀w:World,(Instr.index 151 (.agg #[.int .i64 x,.int .i64 y,.int .i64 d,.int .i64 e]) (.int .i64 1)).run Tryz.prog w= .ok (.int .i64 y) w:=fun _=>by kernel_rfl
 have i2:∀w:World,(Instr.index 151 (.agg #[.int .i64 x,.int .i64 y,.int .i64 d,.int .i64 e]) (.int .i64 2)).run Tryz.prog w= .ok (.int .i64 d) w:=fun _=>by kernel_rfl
 have i3:∀w:World,(Instr.index 151 (.agg #[.int .i64 x,.int .i64 y,.int .i64 d,.int .i64 e]) (.int .i64 3)).run Tryz.prog w= .ok (.int .i64 e) w:=fun _=>by kernel_rfl
 go_enter Tryz.func84,Tryz.ntmps84;go_wp2_with fail;refine(vP x y d e _).mono ?_;rintro r w1 ⟨rfl,hb⟩;have B1:=aA (aC (aG w _) hb)
 clear hb;go_wp2
 go_loop [7] (fun i=>∃k:Nat,k≤4∧i= .int .i64 k∧Hid (∀j,j<k→0≤pU x y d e j∧pU x y d e j≤15)) (fun i=>4-(intOf i).toNat)
 case atStart=>exact⟨0,by omega,rfl,fun j hj=>absurd hj (FE _)⟩
 case round=>
  obtain⟨k,hk,rfl,hok⟩:=hrel;have hk5:k=4∨k=0∨k=1∨k=2∨k=3:=by omega
  rcases hk5 with rfl|rfl|rfl|rfl|rfl
  ·have hp:M.ok ⟨x,y,d,e⟩=true:=M.ok_iff.2 ⟨(hok.out 0 (by omega)).1,(hok.out 0 (by omega)).2,(hok.out 1 (by omega)).1,(hok.out 1 (by omega)).2,(hok.out 2 (by omega)).1,(hok.out 2 (by omega)).2,(hok.out 3 (by omega)).1,(hok.out 3 (by omega)).2⟩;have HP:=aA hp
   clear hp;go_wp2;go_ret;exact⟨by rw[HP.out];rfl,B1.out⟩
  ·by_cases h1:x<0
   ·have hp:Hid (M.ok ⟨x,y,d,e⟩=false):=M.ok_not.2 (fun h=>by simp only at h;omega);go_wp2;go_ret;exact⟨by rw[hp.out];rfl,B1.out⟩
   ·by_cases h2:15<x
    ·have hp:Hid (M.ok ⟨x,y,d,e⟩=false):=M.ok_not.2 (fun h=>by simp only at h;omega);go_wp2;go_ret;exact⟨by rw[hp.out];rfl,B1.out⟩
    ·have hn:Hid (∀j,j<1→0≤pU x y d e j∧pU x y d e j≤15):=fun j hj=>by
      obtain rfl:j=0:=by omega
      exact⟨Int.not_lt.1 h1,Int.not_lt.1 h2⟩
     go_wp2;go_round;case rel=>exact⟨1,by omega,rfl,hn⟩
     case measure=>simp[intOf]
  ·by_cases h1:y<0
   ·have hp:Hid (M.ok ⟨x,y,d,e⟩=false):=M.ok_not.2 (fun h=>by simp only at h;omega);go_wp2;go_ret;exact⟨by rw[hp.out];rfl,B1.out⟩
   ·by_cases h2:15<y
    ·have hp:Hid (M.ok ⟨x,y,d,e⟩=false):=M.ok_not.2 (fun h=>by simp only at h;omega);go_wp2;go_ret;exact⟨by rw[hp.out];rfl,B1.out⟩
    ·have hn:Hid (∀j,j<2→0≤pU x y d e j∧pU x y d e j≤15):=fun j hj=>by
      by_cases hj1:j<1
      ·exact hok.out j hj1
      ·obtain rfl:j=1:=by omega
       exact⟨Int.not_lt.1 h1,Int.not_lt.1 h2⟩
     go_wp2;go_round;case rel=>exact⟨2,by omega,rfl,hn⟩
     case measure=>simp[intOf]
  ·by_cases h1:d<0
   ·have hp:Hid (M.ok ⟨x,y,d,e⟩=false):=M.ok_not.2 (fun h=>by simp only at h;omega);go_wp2;go_ret;exact⟨by rw[hp.out];rfl,B1.out⟩
   ·by_cases h2:15<d
    ·have hp:Hid (M.ok ⟨x,y,d,e⟩=false):=M.ok_not.2 (fun h=>by simp only at h;omega);go_wp2;go_ret;exact⟨by rw[hp.out];rfl,B1.out⟩
    ·have hn:Hid (∀j,j<3→0≤pU x y d e j∧pU x y d e j≤15):=fun j hj=>by
      by_cases hj1:j<2
      ·exact hok.out j hj1
      ·obtain rfl:j=2:=by omega
       exact⟨Int.not_lt.1 h1,Int.not_lt.1 h2⟩
     go_wp2;go_round;case rel=>exact⟨3,by omega,rfl,hn⟩
     case measure=>simp[intOf]
  ·by_cases h1:e<0
   ·have hp:Hid (M.ok ⟨x,y,d,e⟩=false):=M.ok_not.2 (fun h=>by simp only at h;omega);go_wp2;go_ret;exact⟨by rw[hp.out];rfl,B1.out⟩
   ·by_cases h2:15<e
    ·have hp:Hid (M.ok ⟨x,y,d,e⟩=false):=M.ok_not.2 (fun h=>by simp only at h;omega);go_wp2;go_ret;exact⟨by rw[hp.out];rfl,B1.out⟩
    ·have hn:Hid (∀j,j<4→0≤pU x y d e j∧pU x y d e j≤15):=fun j hj=>by
      by_cases hj1:j<3
      ·exact hok.out j hj1
      ·obtain rfl:j=3:=by omega
       exact⟨Int.not_lt.1 h1,Int.not_lt.1 h2⟩
     go_wp2;go_round;case rel=>exact⟨4,by omega,rfl,hn⟩
     case measure=>simp[intOf]
theorem qI {x y d e:Int} {b:Bool} (h:M.ok ⟨x,y,d,e⟩=b) (w:World):Calls Tryz.prog 84 #[.agg #[.int .i64 x,.int .i64 y,.int .i64 d,.int .i64 e]] w fun r w'=>r= .returned (.bool b)∧Below w.heap.size w w':=by rw[←h];exact fZ x y d e w
def oC (c:UInt8) (n:Int):List UInt8:=if n≤0 then[]else if n=1 then[c]else c::Lib.decDigits n.toNat
def IW:Nat→UInt8
 |0=>120
 |1=>121
 |2=>100
 |_=>101
def kT (m:M):Nat→List UInt8
 |0=>[]
 |k+1=>kT m k++oC (IW k) (pU m.x m.y m.d m.e k)
def oQ (m:M):List UInt8:=kT m 4
def gG (m:M):List UInt8:=if M.ok m=true then(if oQ m=[]then[49]else oQ m)else[]
theorem wG (m:M):oQ m=oC 120 m.x++oC 121 m.y++oC 100 m.d++oC 101 m.e:=by unfold oQ kT kT kT kT kT;simp[IW,pU]
theorem jX {n:Nat} (h:n<10):Lib.decDigits n=[UInt8.ofNat (48+n)]:=by rw[Lib.decDigits,dif_pos h]
theorem lC {n:Nat} (h:¬n<10):Lib.decDigits n=Lib.decDigits (n / 10)++[UInt8.ofNat (48+n%10)]:=by rw[Lib.decDigits,dif_neg h]
theorem gP {n:Nat} (h:n<100):(Lib.decDigits n).length≤2:=by
 by_cases h1:n<10
 ·rw[jX h1];simp
 ·rw[lC h1,jX (by omega)];simp
theorem nX {n:Nat} (h:n<10000):(Lib.decDigits n).length≤4:=by
 by_cases h1:n<10
 ·rw[jX h1];simp
 ·rw[lC h1];by_cases h2:n / 10<10
  ·rw[jX h2];simp
  ·rw[lC h2];have:=gP (n:=n / 10 / 10) (by omega)
   simp;omega
theorem lJ {c:UInt8} {n:Int} (h:n≤15):(oC c n).length≤3:=by
 unfold oC;split
 ·simp
 ·split
  ·simp
  ·have:=gP (n:=n.toNat) (by omega);simp;omega
theorem jO {c:UInt8} {n:Nat} (h:2≤n):oC c (n:Int)=c::Lib.decDigits n:=by unfold oC;rw[if_neg (by omega),if_neg (by omega),Int.toNat_natCast]
theorem oY {m:M} (h:M.ok m=true):∀k,(kT m k).length≤3*k
 |0=>by simp[kT]
 |k+1=>by
  have h1:=oY h k
  have h2:(oC (IW k) (pU m.x m.y m.d m.e k)).length≤3:=lJ (by
   obtain⟨x1,x2,y1,y2,d1,d2,e1,e2⟩:=M.ok_iff.1 h;unfold pU
   split<;>assumption)
  unfold kT;simp;omega
theorem wH {m:M} (h:M.ok m=false):gG m=[]:=by unfold gG;rw[if_neg (by rw[h];simp)]
theorem tP {m:M} (h:M.ok m=true) (h0:oQ m=[]):gG m=[49]:=by unfold gG;rw[if_pos h,if_pos h0]
theorem rJ {m:M} (h:M.ok m=true) (h0:oQ m≠[]):gG m=oQ m:=by unfold gG;rw[if_pos h,if_neg h0]
def nW (k:Nat) (out:List UInt8):List UInt8:=(if k=0 then[]else Lib.decDigits k)++out
theorem xH {k:Nat} (h:0<k) (out:List UInt8):nW (k / 10) (UInt8.ofNat (48+k%10)::out)=nW k out:=by
 unfold nW;rw[if_neg (show k≠0 by omega)];by_cases h1:k<10
 ·rw[if_pos (by omega),jX h1,show k%10=k by omega];rfl
 ·rw[if_neg (by omega),lC h1];simp
theorem xI (out:List UInt8):nW 0 out=out:=by unfold nW;simp
theorem zN (k:Nat) (out:List UInt8):out.length≤(nW k out).length:=by unfold nW;simp
theorem uR {k:Nat} (h:0<k):nW k []=Lib.decDigits k:=by unfold nW;rw[if_neg (by omega)];simp
structure T where
 c:Int
 m:M
def eW (f:Nat→T) (i:Nat):Bool:=decide (1≤(f i).c∧(f i).c≤100)&&(f i).m.ok&&(decide (i=0)||decide (0<M.ord 1 (f (i-1)).m (f i).m))
def aN (n:Nat) (f:Nat→T):Bool:=decide (n≤400∧∀i,i<n→eW f i=true)
def eK (w:World) (b o:Nat) (t:T):Prop:=
 w.cell? ⟨b,o,none⟩=some (.int .i64 t.c)∧w.cell? ⟨b,o+1,none⟩=some (.int .i64 t.m.x)∧w.cell? ⟨b,o+2,none⟩=some (.int .i64 t.m.y)∧w.cell? ⟨b,o+3,none⟩=some (.int .i64 t.m.d)∧w.cell? ⟨b,o+4,none⟩=some (.int .i64 t.m.e)
def Rd (w:World) (a:Option Addr) (n cap:Nat) (f:Nat→T):Prop:=
 n≤cap∧n*40≤140737488351232∧(n=0∨∃b off,a=some ⟨b,off,none⟩∧b<w.heap.size∧∀i,i<n→eK w b (off+i*5) (f i))
theorem eK.below {w w':World} {b o:Nat} {t:T} {B:Nat} (h:eK w b o t) (hb:Below B w w') (hB:b<B):eK w' b o t:=by obtain⟨h0,h1,h2,h3,h4⟩:=h;exact⟨(hb.cell (p:=⟨b,o,none⟩) hB).trans h0,(hb.cell (p:=⟨b,o+1,none⟩) hB).trans h1,(hb.cell (p:=⟨b,o+2,none⟩) hB).trans h2,(hb.cell (p:=⟨b,o+3,none⟩) hB).trans h3,(hb.cell (p:=⟨b,o+4,none⟩) hB).trans h4⟩
theorem Rd.below {w w':World} {a:Option Addr} {n cap:Nat} {f:Nat→T} (h:Rd w a n cap f) (hb:Below w.heap.size w w'):Rd w' a n cap f:=by
 obtain⟨h1,h2,h3⟩:=h;refine⟨h1,h2,?_⟩;rcases h3 with h0|⟨b,off,rfl,hlt,hc⟩
 ·exact .inl h0
 ·exact .inr ⟨b,off,rfl,dR hlt hb.size,fun i hi=>(hc i hi).below hb hlt⟩
theorem bD (w:World) (a:Option Addr) (n cap:Nat) (f:Nat→T) (h:Rd w a n cap f):Calls Tryz.prog 74 #[.slice a n cap] w fun r w'=>r= .returned (.bool (aN n f))∧Below w.heap.size w w':=by
 obtain⟨h1,h2,h3⟩:=h;have hn:(n:Int)≤140737488351232:=by omega
 by_cases hl:n≤400
 ·have hl':(n:Int)≤400:=by omega
  go_enter Tryz.func74,Tryz.ntmps74;go_wp2;go_loopw [3] (fun i wr=>∃k:Nat,k≤n∧i= .int .i64 k∧Below w.heap.size w wr∧∀j,j<k→eW f j=true) (fun i _=>n-(intOf i).toNat);case atStart=>exact⟨0,gC _,rfl,aD _ _,fun j hj=>absurd hj (FE _)⟩
  case round=>
   obtain⟨k,hk,rfl,hB,hok⟩:=hrel;by_cases hlt:k<n
   ·rcases h3 with h0|⟨b,off,rfl,hblt,hcl⟩
    ·omega
    have hkn:(k:Int)<(n:Int):=by omega
    have hbr:b<wr.heap.size:=dR hblt hB.size;have ne:=cO.there wr
    have hck:=(hcl k hlt).below hB hblt;have s0:∀u:cO wr,u.1.cell? ⟨b,off+k*5,none⟩=some (.int .i64 (f k).c):=fun u=>(u.cell hbr).trans hck.1
    have s1:∀u:cO wr,u.1.cell? ⟨b,off+k*5+1,none⟩=some (.int .i64 (f k).m.x):=fun u=>(u.cell hbr).trans hck.2.1;have s2:∀u:cO wr,u.1.cell? ⟨b,off+k*5+2,none⟩=some (.int .i64 (f k).m.y):=fun u=>(u.cell hbr).trans hck.2.2.1
    have s3:∀u:cO wr,u.1.cell? ⟨b,off+k*5+3,none⟩=some (.int .i64 (f k).m.d):=fun u=>(u.cell hbr).trans hck.2.2.2.1;have s4:∀u:cO wr,u.1.cell? ⟨b,off+k*5+4,none⟩=some (.int .i64 (f k).m.e):=fun u=>(u.cell hbr).trans hck.2.2.2.2
    clear hck;have ho:eW f k=(decide (1≤(f k).c∧(f k).c≤100)&&(f k).m.ok&&(decide (k=0)||decide (0<M.ord 1 (f (k-1)).m (f k).m))):=rfl
    have hno:eW f k=false→aN n f=false:=fun hf=>by
     simp only[aN,decide_eq_false_iff_not];intro hh;have:=hh.2 k hlt
     rw[hf]at this;cases this
    by_cases hc:1≤(f k).c∧(f k).c≤100
    ·obtain⟨c1,c2⟩:=hc;cases hm:(f k).m.ok
     ·have HF:Hid (aN n f=false):=hno (by rw[ho,hm];simp);clear hno ho hcl hok;go_wp2_with fail;refine aS (by kernel_rfl) (by kernel_rfl) ?_;repeat(go_big_quiet_step (first|(go_at_call 73;exact fC (aP _ _ _ _ c1 c2))|(go_at_call 102;exact bK (gL hm _))))
      refine wpQuiet_nil ?_;rintro _ ⟨u,rfl⟩;go_wp2;go_ret;exact⟨by rw[HF.out];rfl,hB.trans (u.2.mono hB.size)⟩
     ·by_cases hk0:k=0
      ·have ht:eW f k=true:=by rw[ho,hm,decide_eq_true (p:=1≤(f k).c∧(f k).c≤100) ⟨c1,c2⟩,decide_eq_true hk0];rfl
       have hok':Hid (∀j,j<k+1→eW f j=true):=fun j hj=>by
        by_cases hjk:j=k
        ·rw[hjk];exact ht
        ·exact hok j (by omega)
       have dk:decide (0<k)=false:=decide_eq_false (by omega);clear hno ho hcl hok ht hk0;go_wp2_with fail;refine aS (by kernel_rfl) (by kernel_rfl) ?_;repeat(go_big_quiet_step (first|(go_at_call 73;exact fC (aP _ _ _ _ c1 c2))|(go_at_call 102;exact bK (gL hm _))))
       refine wpQuiet_nil ?_;rintro _ ⟨u,rfl⟩;go_wp2;go_roundw;case rel=>exact⟨k+1,by omega,by go_num,hB.trans (u.2.mono hB.size),hok'.out⟩
       case measure=>simp[intOf];omega
      ·have hj:k-1<n:=by omega
       have hcj:=(hcl (k-1) hj).below hB hblt;have p1:∀u:cO wr,u.1.cell? ⟨b,off+(k-1)*5+1,none⟩=some (.int .i64 (f (k-1)).m.x):=fun u=>(u.cell hbr).trans hcj.2.1
       have p2:∀u:cO wr,u.1.cell? ⟨b,off+(k-1)*5+2,none⟩=some (.int .i64 (f (k-1)).m.y):=fun u=>(u.cell hbr).trans hcj.2.2.1;have p3:∀u:cO wr,u.1.cell? ⟨b,off+(k-1)*5+3,none⟩=some (.int .i64 (f (k-1)).m.d):=fun u=>(u.cell hbr).trans hcj.2.2.2.1
       have p4:∀u:cO wr,u.1.cell? ⟨b,off+(k-1)*5+4,none⟩=some (.int .i64 (f (k-1)).m.e):=fun u=>(u.cell hbr).trans hcj.2.2.2.2;clear hcj;have dk:decide (0<k)=true:=decide_eq_true (by omega)
       have hk1:(0:Int)<(k:Int):=by omega
       have hk2:(k:Int)-1<(n:Int):=by omega
       have hk3:(0:Int)≤(k:Int)-1:=by omega
       by_cases hq:0<M.ord 1 (f (k-1)).m (f k).m
       ·have ht:eW f k=true:=by rw[ho,hm,decide_eq_true (p:=1≤(f k).c∧(f k).c≤100) ⟨c1,c2⟩,decide_eq_true hq];simp
        have hok':Hid (∀j,j<k+1→eW f j=true):=fun j hj=>by
         by_cases hjk:j=k
         ·rw[hjk];exact ht
         ·exact hok j (by omega)
        have dq:decide (M.ord 1 ⟨(f (k-1)).m.x,(f (k-1)).m.y,(f (k-1)).m.d,(f (k-1)).m.e⟩ ⟨(f k).m.x,(f k).m.y,(f k).m.d,(f k).m.e⟩≤0)=false:=decide_eq_false (Int.not_le.2 hq);clear hno ho hcl hok ht hk0 hq;go_wp2_with fail;refine aS (by kernel_rfl) (by kernel_rfl) ?_;repeat(go_big_quiet_step (first|(go_at_call 73;exact fC (aP _ _ _ _ c1 c2))|(go_at_call 102;exact bK (gL hm _))|(go_at_call 116;exact bK (BC _ _ _ _ _ _ _ _ _))))
        refine wpQuiet_nil ?_;rintro _ ⟨u,rfl⟩;go_wp2;go_roundw;case rel=>exact⟨k+1,by omega,by go_num,hB.trans (u.2.mono hB.size),hok'.out⟩
        case measure=>simp[intOf];omega
       ·have HF:Hid (aN n f=false):=hno (by rw[ho,hm];simp[hk0,hq]);have dq:decide (M.ord 1 ⟨(f (k-1)).m.x,(f (k-1)).m.y,(f (k-1)).m.d,(f (k-1)).m.e⟩ ⟨(f k).m.x,(f k).m.y,(f k).m.d,(f k).m.e⟩≤0)=true:=decide_eq_true (Int.not_lt.1 hq)
        clear hno ho hcl hok hk0 hq;go_wp2_with fail;refine aS (by kernel_rfl) (by kernel_rfl) ?_;repeat(go_big_quiet_step (first|(go_at_call 73;exact fC (aP _ _ _ _ c1 c2))|(go_at_call 102;exact bK (gL hm _))|(go_at_call 116;exact bK (BC _ _ _ _ _ _ _ _ _))))
        refine wpQuiet_nil ?_;rintro _ ⟨u,rfl⟩;go_wp2;go_ret;exact⟨by rw[HF.out];rfl,hB.trans (u.2.mono hB.size)⟩
    ·have HF:Hid (aN n f=false):=hno (by rw[ho];simp[hc]);have hc':(f k).c<1∨(1≤(f k).c∧100<(f k).c):=by omega
     clear hc hno ho hcl hok;go_wp2_with fail;refine aS (by kernel_rfl) (by kernel_rfl) ?_;repeat(go_big_quiet_step ((go_at_call 73;exact fC (aL _ _ _ _ hc'))))
     refine wpQuiet_nil ?_;rintro _ ⟨u,rfl⟩;go_wp2;go_ret;exact⟨by rw[HF.out];rfl,hB.trans (u.2.mono hB.size)⟩
   ·go_wp2;go_ret;have hp:aN n f=true:=by simp only[aN,decide_eq_true_eq];exact⟨hl,fun i hi=>hok i (by omega)⟩
    exact⟨by rw[hp];rfl,hB⟩
 ·have hl':(400:Int)<(n:Int):=by omega
  have hp:aN n f=false:=by simp only[aN,decide_eq_false_iff_not];exact fun h=>hl h.1
  rw[hp];go_enter Tryz.func74,Tryz.ntmps74;go_wp2;go_ret;exact⟨rfl,aD _ _⟩
open Go.Shelf Go.RowKit
theorem DA {n k:Nat} (h:n<10 ^ (k+1)):(Lib.decDigits n).length≤k+1:=by
 rw[Lib.decDigits_length];induction k generalizing n with
 |zero=>rw[Lib.nDigits_small (by simpa using h)];omega
 |succ k ih=>
  by_cases q:n<10
  ·rw[Lib.nDigits_small q];omega
  ·rw[Lib.nDigits_big q];have:=ih (n:=n / 10) (by rw[Nat.pow_succ]at h;omega)
   omega
theorem xJ {n:Nat} (h:n≤9223372036854775807):(Lib.decDigits n).length≤20:=DA (k:=19) (by omega)
def JJ (c:Int):List UInt8:=Lib.decDigits c.toNat
def oX (t:T):List UInt8:=if t.m.x=0∧t.m.y=0∧t.m.d=0∧t.m.e=0 then JJ t.c else if t.c=1 then gG t.m else JJ t.c++gG t.m
def qD (f:Nat→T):Nat→List UInt8
 |0=>[]
 |k+1=>(if k=0 then[]else qD f k++[43])++oX (f k)
def iW (n:Nat) (f:Nat→T):List UInt8:=if aN n f=true then(if n=0 then[48]else qD f n)else[]
theorem wN {n:Nat} {f:Nat→T} (h:aN n f=false):iW n f=[]:=by unfold iW;rw[if_neg (by rw[h];simp)]
theorem qK {n:Nat} {f:Nat→T} (h:aN n f=true) (h0:n=0):iW n f=[48]:=by unfold iW;rw[if_pos h,if_pos h0]
theorem wM {n:Nat} {f:Nat→T} (h:aN n f=true) (h0:n≠0):iW n f=qD f n:=by unfold iW;rw[if_pos h,if_neg h0]
theorem EA {f:Nat→T} {i:Nat} (h:eW f i=true):(1≤(f i).c∧(f i).c≤100)∧(f i).m.ok=true:=by unfold eW at h;simp only[Bool.and_eq_true,decide_eq_true_eq]at h;exact h.1
theorem eB {n:Nat} {f:Nat→T} (h:aN n f=true):n≤400∧∀i,i<n→(1≤(f i).c∧(f i).c≤100)∧(f i).m.ok=true:=by have h':=of_decide_eq_true h;exact⟨h'.1,fun i hi=>EA (h'.2 i hi)⟩
theorem CZ {c:Int} (h:c≤100):(JJ c).length≤4:=nX (by omega)
theorem oR {m:M} (h:M.ok m=true):(gG m).length≤12:=by
 unfold gG;rw[if_pos h];split
 ·simp
 ·have:=oY h 4;unfold oQ;omega
theorem CC {t:T} (hc:t.c≤100) (h:M.ok t.m=true):(oX t).length≤16:=by
 have h1:=CZ hc;have h2:=oR h
 unfold oX;split
 ·omega
 ·split
  ·omega
  ·rw[List.length_append];omega
theorem lL {f:Nat→T}:∀k,(∀i,i<k→(1≤(f i).c∧(f i).c≤100)∧(f i).m.ok=true)→(qD f k).length≤17*k
 |0,_=>by simp[qD]
 |k+1,h=>by
  have h1:=lL k (fun i hi=>h i (by omega));have h2:=CC (h k (by omega)).1.2 (h k (by omega)).2
  unfold qD;rw[List.length_append];split
  ·simp;omega
  ·rw[List.length_append];simp;omega
theorem lI {c:UInt8} {n:Int} (h:1≤n):∃r,oC c n=c::r:=by
 unfold oC;rw[if_neg (by omega)];split
 ·exact⟨[],rfl⟩
 ·exact⟨_,rfl⟩
theorem rB {c:UInt8} {n:Int} (h:n≤0):oC c n=[]:=by unfold oC;rw[if_pos h]
theorem xV {m:M} (h:M.ok m=true) (h0:¬(m.x=0∧m.y=0∧m.d=0∧m.e=0)):∃c r,oQ m=c::r∧(c=120∨c=121∨c=100∨c=101):=by
 obtain⟨x1,x2,y1,y2,d1,d2,e1,e2⟩:=M.ok_iff.1 h;rw[wG];by_cases hx:1≤m.x
 ·obtain⟨r,hr⟩:=lI (c:=120) hx;exact⟨120,_,by rw[hr];rfl,.inl rfl⟩
 rw[rB (c:=120) (by omega),List.nil_append];by_cases hy:1≤m.y
 ·obtain⟨r,hr⟩:=lI (c:=121) hy;exact⟨121,_,by rw[hr];rfl,.inr (.inl rfl)⟩
 rw[rB (c:=121) (by omega),List.nil_append];by_cases hd:1≤m.d
 ·obtain⟨r,hr⟩:=lI (c:=100) hd;exact⟨100,_,by rw[hr];rfl,.inr (.inr (.inl rfl))⟩
 rw[rB (c:=100) (by omega),List.nil_append];by_cases he:1≤m.e
 ·obtain⟨r,hr⟩:=lI (c:=101) he;exact⟨101,_,hr,.inr (.inr (.inr rfl))⟩
 ·exact absurd ⟨by omega,by omega,by omega,by omega⟩ h0
theorem xW {m:M} (h:M.ok m=true) (h0:¬(m.x=0∧m.y=0∧m.d=0∧m.e=0)):gG m≠[49]∧gG m≠[]:=by obtain⟨c,r,e,hc⟩:=xV h h0;rw[rJ h (by rw[e];simp),e];refine⟨fun q=>?_,by simp⟩;rw[List.cons.injEq]at q;rcases hc with rfl|rfl|rfl|rfl<;>exact absurd q.1 (by decide)
theorem GL:gG ⟨0,0,0,0⟩=[49]:=by decide+kernel
theorem pE (sep:List UInt8) (r:List (List UInt8)) (y:List UInt8):Lib.joinTail sep (r++[y])=Lib.joinTail sep r++sep++y:=by unfold Lib.joinTail;simp
theorem qE (sep:List UInt8) (l:List (List UInt8)) (y:List UInt8):Lib.join (l++[y]) sep=(if l.length=0 then[]else Lib.join l sep++sep)++y:=by
 cases l with
 |nil=>simp[Lib.join_one]
 |cons x r=>rw[List.cons_append,Lib.join_cons,Lib.join_cons,pE,if_neg (by simp)];simp
def sD (f:Nat→T) (k:Nat):List (List UInt8):=(List.range k).map fun i=>oX (f i)
theorem mA (f:Nat→T) (k:Nat):(sD f k).length=k:=by simp[sD]
theorem uI (f:Nat→T) (k:Nat):sD f (k+1)=sD f k++[oX (f k)]:=by simp[sD,List.range_succ]
theorem oG (f:Nat→T):∀k,Lib.join (sD f k) [43]=qD f k
 |0=>by simp[sD,qD,Lib.join_nil]
 |k+1=>by rw[uI,qE,mA,oG f k];rfl
abbrev Tb (w : World) : Prop := Lib.TabIs Tryz.prog w "internal/strconv.uint64pow10" .u64 Lib.pow10Tab
theorem Tb.below {w w':World} (h:Tb w) (hb:Below w.heap.size w w'):Tb w':=Lib.tabBelow_of_tabIs h w' hb
shelf_lay LaysM.n171 Nm 171 at Tryz as layM171
theorem DP (n:Nat) (hn:n≤9223372036854775807) (w:World) (h:Tb w):Calls Tryz.prog 63 #[.int .i64 (n:Int)] w fun e w'=>e= .returned (.string ⟨(Lib.decDigits n).toArray⟩)∧Below w.heap.size w w':=by
 refine(Any.strconv_Itoa layM171 (n:Int) (by omega) (by omega) w h).mono ?_;rintro e w' ⟨rfl,k,os,rfl⟩;refine⟨?_,?_⟩
 ·unfold Lib.itoa;rw[if_neg (by omega),Int.toNat_natCast]
 ·exact Lib.below_grow _ _ (Nat.le_refl _) _ _
def oJ:Go.Shelf.Ren:=⟨fun|0=>0|1=>1|2=>2|103=>226|122=>154|125=>199|128=>219|129=>192|138=>189|143=>136|145=>50|147=>137|156=>71|165=>112|166=>113|167=>170|169=>114|170=>171|171=>63|172=>186|195=>205|197=>201|205=>237|206=>242|210=>238|215=>179|217=>157|218=>206|219=>134|220=>94|221=>163|224=>159|225=>158|240=>143|241=>144|243=>109|244=>202|245=>203|246=>141|247=>221|260=>220|266=>182|267=>160|268=>188|276=>172|277=>173|279=>222|280=>223|281=>224|282=>225|283=>166|284=>167|285=>168|286=>169|287=>235|314=>183|316=>236|317=>191|318=>193|319=>194|320=>195|321=>240|322=>241|329=>231|330=>232|337=>209|338=>210|347=>243|348=>244|349=>245|350=>246|351=>247|352=>248|353=>249|354=>250|355=>251|356=>252|357=>253|358=>254|359=>255|360=>256|361=>257|362=>258|363=>261|364=>259|365=>260|366=>262|367=>273|n=>n,fun|0=>0|1=>1|2=>2|3=>3|4=>4|5=>5|6=>6|7=>7|8=>8|9=>9|10=>10|11=>11|12=>12|13=>13|14=>14|15=>15|16=>16|17=>17|18=>18|19=>19|20=>20|21=>21|22=>254|24=>228|25=>229|26=>162|27=>158|28=>90|31=>46|37=>51|38=>55|43=>115|46=>174|47=>205|51=>195|52=>213|53=>183|54=>184|55=>173|59=>68|60=>69|62=>159|67=>93|68=>63|69=>199|70=>127|71=>128|72=>129|73=>130|74=>131|75=>132|76=>133|77=>134|78=>188|80=>135|81=>92|83=>81|84=>163|85=>223|86=>224|101=>49|102=>48|103=>66|104=>29|105=>209|106=>210|108=>247|111=>155|113=>180|114=>65|119=>239|127=>164|128=>211|131=>220|137=>240|138=>241|139=>242|143=>251|144=>252|145=>253|146=>196|150=>201|151=>197|164=>189|165=>190|166=>191|167=>222|168=>225|169=>226|170=>227|171=>182|172=>185|173=>186|174=>187|175=>243|176=>244|182=>215|183=>216|209=>245|210=>246|211=>202|212=>203|213=>204|214=>250|218=>233|219=>234|220=>235|222=>237|228=>248|229=>156|232=>231|233=>232|238=>255|239=>256|240=>257|241=>258|242=>259|243=>260|244=>261|245=>262|246=>263|247=>264|248=>265|249=>266|n=>n,fun n=>n⟩
theorem AJ:Lays.n156 Tryz.prog oJ where
 mixed:=by kernel_rfl
 f156:=Tryz.func71.trans (congrArg some (by kernel_rfl))
 f165:=Tryz.func112.trans (congrArg some (by kernel_rfl))
 f166:=Tryz.func113.trans (congrArg some (by kernel_rfl))
 f169:=Tryz.func114.trans (congrArg some (by kernel_rfl))
 f240:=Tryz.func143.trans (congrArg some (by kernel_rfl))
 f241:=Tryz.func144.trans (congrArg some (by kernel_rfl))
 f276:=Tryz.func172.trans (congrArg some (by kernel_rfl))
 f277:=Tryz.func173.trans (congrArg some (by kernel_rfl))
 t0:=Tryz.underlying0
 a0:=Tryz.isAgg0
 z0:=Tryz.sizeOf0
 v0:=Tryz.zeroValue0
 t3:=Tryz.underlying3
 a3:=Tryz.isAgg3
 z3:=Tryz.sizeOf3
 v3:=Tryz.zeroValue3
 t4:=Tryz.underlying4
 a4:=Tryz.isAgg4
 z4:=Tryz.sizeOf4
 v4:=Tryz.zeroValue4
 t9:=Tryz.underlying9
 a9:=Tryz.isAgg9
 z9:=Tryz.sizeOf9
 v9:=Tryz.zeroValue9
 t20:=Tryz.underlying20
 a20:=Tryz.isAgg20
 z20:=Tryz.sizeOf20
 v20:=Tryz.zeroValue20
 t31:=Tryz.underlying46
 a31:=Tryz.isAgg46
 z31:=Tryz.sizeOf46
 v31:=Tryz.zeroValue46
 t37:=Tryz.underlying51
 a37:=Tryz.isAgg51
 z37:=Tryz.sizeOf51
 v37:=Tryz.zeroValue51
 t70:=Tryz.underlying127
 a70:=Tryz.isAgg127
 z70:=Tryz.sizeOf127
 v70:=Tryz.zeroValue127
 t72:=Tryz.underlying129
 a72:=Tryz.isAgg129
 z72:=Tryz.sizeOf129
 v72:=Tryz.zeroValue129
 t75:=Tryz.underlying132
 a75:=Tryz.isAgg132
 z75:=Tryz.sizeOf132
 v75:=Tryz.zeroValue132
 t76:=Tryz.underlying133
 a76:=Tryz.isAgg133
 z76:=Tryz.sizeOf133
 v76:=Tryz.zeroValue133
 t127:=Tryz.underlying164
 a127:=Tryz.isAgg164
 z127:=Tryz.sizeOf164
 v127:=Tryz.zeroValue164
 t164:=Tryz.underlying189
 a164:=Tryz.isAgg189
 z164:=Tryz.sizeOf189
 v164:=Tryz.zeroValue189
theorem sV:Builder.Extra Tryz.prog oJ where
 sizeBuilder:=by kernel_rfl
 liesBuilder:=by kernel_rfl
 t5:=Tryz.underlying5
 a5:=Tryz.isAgg5
 z5:=Tryz.sizeOf5
 v5:=Tryz.zeroValue5
 infoByte:=by kernel_rfl
 cellsByte:=by kernel_rfl
 sizeByte:=by kernel_rfl
 neB5:=by decide
theorem IR (bk c:Nat) (xs:List ByteArray) (w:World) (hcells:∀(j:Nat) x,xs[j]? =some x→w.cell? ⟨bk,0+j,none⟩=some (.string x)) (hbk:bk<w.heap.size) (hN:xs.length≤140737488355328) (hcap:xs.length≤c) (hlen:(Lib.join (xs.map (·.data.toList)) [43]).length≤140737488355328):Calls Tryz.prog 71 #[.slice (some ⟨bk,0,none⟩) xs.length c,.string ⟨#[43]⟩] w fun e w'=>e= .returned (.string ⟨(Lib.join (xs.map (·.data.toList)) [43]).toArray⟩)∧Below w.heap.size w w':=
 Any.strings_Join AJ sV bk 0 c xs ⟨#[43]⟩ w hcells hbk hN hcap hlen
end Go.Proofs.YtoglomfejgpoeaaGreatDoor
namespace Go.Proofs.YtoglomfejgpoeaaGreatDoor
open Go.RowKit
set_option linter.unusedVariables false
end Go.Proofs.YtoglomfejgpoeaaGreatDoor
namespace Go.Proofs.YtoglomfejgpoeaaGreatDoor
set_option linter.unusedVariables false
open Go.RowKit
def M4 (w:World) (b:Nat) (x y d e:Int):Prop:=
 w.cell? ⟨b,0,none⟩=some (.int .i64 x)∧w.cell? ⟨b,1,none⟩=some (.int .i64 y)∧w.cell? ⟨b,2,none⟩=some (.int .i64 d)∧w.cell? ⟨b,3,none⟩=some (.int .i64 e)
theorem M4.lt {w:World} {b:Nat} {x y d e:Int} (h:M4 w b x y d e):b<w.heap.size:=uK w _ h.1
theorem M4.below {w w':World} {b:Nat} {x y d e:Int} (h:M4 w b x y d e) (hb:Below w.heap.size w w'):M4 w' b x y d e:=
 ⟨(hb.cell (p:=⟨b,0,none⟩) h.lt).trans h.1,(hb.cell (p:=⟨b,1,none⟩) h.lt).trans h.2.1,(hb.cell (p:=⟨b,2,none⟩) h.lt).trans h.2.2.1,(hb.cell (p:=⟨b,3,none⟩) h.lt).trans h.2.2.2⟩
theorem M4.box (w:World) (t:TypeId) (x y d e:Int):M4 (w.alloc (.cells #[.int .i64 x,.int .i64 y,.int .i64 d,.int .i64 e] t)) w.heap.size x y d e:=
 ⟨by rw[World.cell?_alloc_at _ _ _ _ rfl];rfl,by rw[World.cell?_alloc_at _ _ _ _ rfl];rfl,by rw[World.cell?_alloc_at _ _ _ _ rfl];rfl,by rw[World.cell?_alloc_at _ _ _ _ rfl];rfl⟩
theorem M4.grown {w w':World} {b:Nat} {x y d e:Int} {row:Option Nat} (h:M4 w b x y d e) (hg:w.grownBy w' row) (hne:some b≠row):M4 w' b x y d e:=by have he:=hg.block b h.lt hne;exact⟨(kV (w:=w) (a:=⟨b,0,none⟩) he).trans h.1,(kV (w:=w) (a:=⟨b,1,none⟩) he).trans h.2.1,(kV (w:=w) (a:=⟨b,2,none⟩) he).trans h.2.2.1,(kV (w:=w) (a:=⟨b,3,none⟩) he).trans h.2.2.2⟩
theorem M4.alloc {w:World} {b:Nat} {x y d e:Int} (h:M4 w b x y d e) (o:Obj):M4 (w.alloc o) b x y d e:=h.below ((aD _ _).alloc (Nat.le_refl _) _)
end Go.Proofs.YtoglomfejgpoeaaGreatDoor
