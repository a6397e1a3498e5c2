/-
  What the functions of the program's chapter 2 return: the same plain functions as the model's.
-/
import Derived.Test.YtkcmamepoplcdaaGreatDoorUaa
import Derived.Lib.ItoaNum
import Derived.Lib.UnsafeStr
import Derived.WalkSmall
import Derived.Lib.Join
import Derived.Lib.LaidTab
import Derived.Lib.AppendIntMem
import Derived.Shelf.Lay
import Derived.Shelf.Strconv.Itoa3
import Derived.Shelf.Strings.OnBuilder
import Derived.Ground.NamesProg
import Derived.ProofKit
import Derived.Deep.OwnRows
import Derived.Lib.SmallJoins
set_option maxHeartbeats 4000000
namespace Go.Proofs.YtkcmamepoplcdaaGreatDoor
open Go.RowKit
set_option linter.unusedVariables false
theorem aF (w:World) (A:Obj):Below w.heap.size w (w.alloc A):=(aD _ _).alloc (Nat.le_refl _) _
theorem lI {w:World} {t:TypeId} (A:Array Value) (i:Nat) (v:Value) (h:A[i]? =some v):∀u:dF (w.alloc (.cells A t)),u.1.cell? ⟨w.heap.size,i,none⟩=some v:=fun u=>by
 rw[u.cell (by simp),World.cell?_alloc_at _ _ _ _ rfl];exact h
theorem xB (x y d e:Int) (w:World):Calls Tryz.prog 127 #[.agg #[.int .i64 x,.int .i64 y,.int .i64 d,.int .i64 e]] w fun r w'=>r= .returned (.agg #[.int .i64 x,.int .i64 y,.int .i64 d,.int .i64 e])∧Below w.heap.size w w':=by go_enter Tryz.func127,Tryz.ntmps127;go_wp2;refine dT (v:=.agg #[.int .i64 x,.int .i64 y,.int .i64 d,.int .i64 e]) (by simp[results,Tryz.results127,go_sem]) rfl ⟨rfl,?_⟩;exact dR w _ _
theorem FX (x y d e:Int) (w:World) (h:M.ok ⟨x,y,d,e⟩=true):Calls Tryz.prog 125 #[.agg #[.int .i64 x,.int .i64 y,.int .i64 d,.int .i64 e]] w fun r w'=>r= .returned (.int .i64 (x+y+d+e))∧Below w.heap.size w w':=by obtain⟨x1,x2,y1,y2,d1,d2,e1,e2⟩:=M.ok_iff.1 h;simp only at x1 x2 y1 y2 d1 d2 e1 e2;clear h;go_enter Tryz.func125,Tryz.ntmps125;go_wp2;go_ret;exact⟨rfl,aF w _⟩
def iT (m:M):Int:=((m.d*16+m.e)*16+m.x)*16+m.y
def dG (m:M):Int:=(m.x+m.y+m.d+m.e)*65536+iT m
theorem DR (x y d e:Int) (w:World) (h:M.ok ⟨x,y,d,e⟩=true):Calls Tryz.prog 126 #[.agg #[.int .i64 x,.int .i64 y,.int .i64 d,.int .i64 e]] w fun r w'=>r= .returned (.int .i64 (iT ⟨x,y,d,e⟩))∧Below w.heap.size w w':=by obtain⟨x1,x2,y1,y2,d1,d2,e1,e2⟩:=M.ok_iff.1 h;simp only at x1 x2 y1 y2 d1 d2 e1 e2;clear h;simp only[iT];go_enter Tryz.func126,Tryz.ntmps126;go_wp2;go_ret;exact⟨rfl,aF w _⟩
theorem lZ (x y d e:Int) (w:World) (h:M.ok ⟨x,y,d,e⟩=true):Calls Tryz.prog 88 #[.agg #[.int .i64 x,.int .i64 y,.int .i64 d,.int .i64 e]] w fun r w'=>r= .returned (.int .i64 (dG ⟨x,y,d,e⟩))∧Below w.heap.size w w':=by
 obtain⟨x1,x2,y1,y2,d1,d2,e1,e2⟩:=M.ok_iff.1 h;simp only at x1 x2 y1 y2 d1 d2 e1 e2;have HK:=aA h
 have k1:0≤iT ⟨x,y,d,e⟩:=by simp only[iT];omega
 have k2:iT ⟨x,y,d,e⟩≤65535:=by simp only[iT];omega
 have r1:dG ⟨x,y,d,e⟩=(x+y+d+e)*65536+iT ⟨x,y,d,e⟩:=rfl;rw[r1];clear h r1;go_enter Tryz.func88,Tryz.ntmps88;go_wp2_with fail;have B1:=aA (aF w (.cells #[.int .i64 x,.int .i64 y,.int .i64 d,.int .i64 e] 77))
 have ne:=dF.there (w.alloc (.cells #[.int .i64 x,.int .i64 y,.int .i64 d,.int .i64 e] 77));have s0:=lI (w:=w) (t:=77) #[.int .i64 x,.int .i64 y,.int .i64 d,.int .i64 e] 0 _ rfl
 have s1:=lI (w:=w) (t:=77) #[.int .i64 x,.int .i64 y,.int .i64 d,.int .i64 e] 1 _ rfl;have s2:=lI (w:=w) (t:=77) #[.int .i64 x,.int .i64 y,.int .i64 d,.int .i64 e] 2 _ rfl
 have s3:=lI (w:=w) (t:=77) #[.int .i64 x,.int .i64 y,.int .i64 d,.int .i64 e] 3 _ rfl;refine aS (by kernel_rfl) (by kernel_rfl) ?_;repeat(go_big_quiet_step (first|(go_at_call 125;exact bD (FX _ _ _ _ _ HK.out))|(go_at_call 126;exact bD (DR _ _ _ _ _ HK.out))))
 refine wpQuiet_nil ?_;rintro _ ⟨u,rfl⟩;go_wp2;go_ret;exact⟨rfl,B1.out.trans (u.2.mono B1.out.size)⟩
def qA (x y d e:Int):Nat→Int
 |0=>x
 |1=>y
 |2=>d
 |_=>e
theorem fL (x y d e:Int) (w:World):Calls Tryz.prog 116 #[.agg #[.int .i64 x,.int .i64 y,.int .i64 d,.int .i64 e]] w fun r w'=>r= .returned (.bool (M.ok ⟨x,y,d,e⟩))∧Below w.heap.size w w':=by
 have i0:∀w:World,(Instr.index 131 (.agg #[.int .i64 x,.int .i64 y,.int .i64 d,.int .i64 e]) (.int .i64 0)).run Tryz.prog w= .ok (.int .i64 x) w:=fun _=>by kernel_rfl
 have i1:∀w:World,(Instr.index 131 (.agg #[.int .i64 x,.int .i64 y,.int .i64 d,.int .i64 e]) (.int .i64 1)).run Tryz.prog w= .ok (.int .i64 y) w:=fun _=>by kernel_rfl
 have i2:∀w:World,(Instr.index 131 (.agg #[.int .i64 x,.int .i64 y,.int .i64 d,.int .i64 e]) (.int .i64 2)).run Tryz.prog w= .ok (.int .i64 d) w:=fun _=>by kernel_rfl
 have i3:∀w:World,(Instr.index 131 (.agg #[.int .i64 x,.int .i64 y,.int .i64 d,.int .i64 e]) (.int .i64 3)).run Tryz.prog w= .ok (.int .i64 e) w:=fun _=>by kernel_rfl
 go_enter Tryz.func116,Tryz.ntmps116;go_wp2_with fail;refine(xB x y d e _).mono ?_;rintro r w1 ⟨rfl,hb⟩;have B1:=aA (aC (aF w _) hb)
 clear hb;go_wp2
 go_loop [7] (fun i=>∃k:Nat,k≤4∧i= .int .i64 k∧Hid (∀j,j<k→0≤qA x y d e j∧qA x y d e j≤15)) (fun i=>4-(intOf i).toNat)
 case atStart=>exact⟨0,by omega,rfl,fun j hj=>absurd hj (Nat.not_lt_zero _)⟩
 case round=>
  obtain⟨k,hk,rfl,hok⟩:=hrel;have hk5:k=4∨k=0∨k=1∨k=2∨k=3:=by omega
  rcases hk5 with rfl|rfl|rfl|rfl|rfl
  ·have hp:M.ok ⟨x,y,d,e⟩=true:=M.ok_iff.2 ⟨(hok.out 0 (by omega)).1,(hok.out 0 (by omega)).2,(hok.out 1 (by omega)).1,(hok.out 1 (by omega)).2,(hok.out 2 (by omega)).1,(hok.out 2 (by omega)).2,(hok.out 3 (by omega)).1,(hok.out 3 (by omega)).2⟩;have HP:=aA hp
   clear hp;go_wp2;go_ret;exact⟨by rw[HP.out];rfl,B1.out⟩
  ·by_cases h1:x<0
   ·have hp:Hid (M.ok ⟨x,y,d,e⟩=false):=M.ok_not.2 (fun h=>by simp only at h;omega);go_wp2;go_ret;exact⟨by rw[hp.out];rfl,B1.out⟩
   ·by_cases h2:15<x
    ·have hp:Hid (M.ok ⟨x,y,d,e⟩=false):=M.ok_not.2 (fun h=>by simp only at h;omega);go_wp2;go_ret;exact⟨by rw[hp.out];rfl,B1.out⟩
    ·have hn:Hid (∀j,j<1→0≤qA x y d e j∧qA x y d e j≤15):=fun j hj=>by
      obtain rfl:j=0:=by omega
      exact⟨Int.not_lt.1 h1,Int.not_lt.1 h2⟩
     go_wp2;go_round;case rel=>exact⟨1,by omega,rfl,hn⟩
     case measure=>simp[intOf]
  ·by_cases h1:y<0
   ·have hp:Hid (M.ok ⟨x,y,d,e⟩=false):=M.ok_not.2 (fun h=>by simp only at h;omega);go_wp2;go_ret;exact⟨by rw[hp.out];rfl,B1.out⟩
   ·by_cases h2:15<y
    ·have hp:Hid (M.ok ⟨x,y,d,e⟩=false):=M.ok_not.2 (fun h=>by simp only at h;omega);go_wp2;go_ret;exact⟨by rw[hp.out];rfl,B1.out⟩
    ·have hn:Hid (∀j,j<2→0≤qA x y d e j∧qA x y d e j≤15):=fun j hj=>by
      by_cases hj1:j<1
      ·exact hok.out j hj1
      ·obtain rfl:j=1:=by omega
       exact⟨Int.not_lt.1 h1,Int.not_lt.1 h2⟩
     go_wp2;go_round;case rel=>exact⟨2,by omega,rfl,hn⟩
     case measure=>simp[intOf]
  ·by_cases h1:d<0
   ·have hp:Hid (M.ok ⟨x,y,d,e⟩=false):=M.ok_not.2 (fun h=>by simp only at h;omega);go_wp2;go_ret;exact⟨by rw[hp.out];rfl,B1.out⟩
   ·by_cases h2:15<d
    ·have hp:Hid (M.ok ⟨x,y,d,e⟩=false):=M.ok_not.2 (fun h=>by simp only at h;omega);go_wp2;go_ret;exact⟨by rw[hp.out];rfl,B1.out⟩
    ·have hn:Hid (∀j,j<3→0≤qA x y d e j∧qA x y d e j≤15):=fun j hj=>by
      by_cases hj1:j<2
      ·exact hok.out j hj1
      ·obtain rfl:j=2:=by omega
       exact⟨Int.not_lt.1 h1,Int.not_lt.1 h2⟩
     go_wp2;go_round;case rel=>exact⟨3,by omega,rfl,hn⟩
     case measure=>simp[intOf]
  ·by_cases h1:e<0
   ·have hp:Hid (M.ok ⟨x,y,d,e⟩=false):=M.ok_not.2 (fun h=>by simp only at h;omega);go_wp2;go_ret;exact⟨by rw[hp.out];rfl,B1.out⟩
   ·by_cases h2:15<e
    ·have hp:Hid (M.ok ⟨x,y,d,e⟩=false):=M.ok_not.2 (fun h=>by simp only at h;omega);go_wp2;go_ret;exact⟨by rw[hp.out];rfl,B1.out⟩
    ·have hn:Hid (∀j,j<4→0≤qA x y d e j∧qA x y d e j≤15):=fun j hj=>by
      by_cases hj1:j<3
      ·exact hok.out j hj1
      ·obtain rfl:j=3:=by omega
       exact⟨Int.not_lt.1 h1,Int.not_lt.1 h2⟩
     go_wp2;go_round;case rel=>exact⟨4,by omega,rfl,hn⟩
     case measure=>simp[intOf]
theorem qM {x y d e:Int} {b:Bool} (h:M.ok ⟨x,y,d,e⟩=b) (w:World):Calls Tryz.prog 116 #[.agg #[.int .i64 x,.int .i64 y,.int .i64 d,.int .i64 e]] w fun r w'=>r= .returned (.bool b)∧Below w.heap.size w w':=by rw[←h];exact fL x y d e w
def cD (c:UInt8) (n:Int):List UInt8:=if n≤0 then[]else if n=1 then[c]else c::Lib.decDigits n.toNat
def CZ:Nat→UInt8
 |0=>120
 |1=>121
 |2=>100
 |_=>101
def kU (m:M):Nat→List UInt8
 |0=>[]
 |k+1=>kU m k++cD (CZ k) (qA m.x m.y m.d m.e k)
def cG (m:M):List UInt8:=kU m 4
def dS (m:M):List UInt8:=if M.ok m=true then(if cG m=[]then[49]else cG m)else[]
theorem gN (m:M):cG m=cD 120 m.x++cD 121 m.y++cD 100 m.d++cD 101 m.e:=by unfold cG kU kU kU kU kU;simp[CZ,qA]
theorem cQ {n:Nat} (h:n<10):Lib.decDigits n=[UInt8.ofNat (48+n)]:=by rw[Lib.decDigits,dif_pos h]
theorem cT {n:Nat} (h:¬n<10):Lib.decDigits n=Lib.decDigits (n / 10)++[UInt8.ofNat (48+n%10)]:=by rw[Lib.decDigits,dif_neg h]
theorem fW {n:Nat} (h:n<100):(Lib.decDigits n).length≤2:=by
 by_cases h1:n<10
 ·rw[cQ h1];simp
 ·rw[cT h1,cQ (by omega)];simp
theorem jG {n:Nat} (h:n<10000):(Lib.decDigits n).length≤4:=by
 by_cases h1:n<10
 ·rw[cQ h1];simp
 ·rw[cT h1];by_cases h2:n / 10<10
  ·rw[cQ h2];simp
  ·rw[cT h2];have:=fW (n:=n / 10 / 10) (by omega)
   simp;omega
theorem vS (n:Nat):Lib.decDigits n≠[]:=by
 by_cases h1:n<10
 ·rw[cQ h1];simp
 ·rw[cT h1];simp
theorem lL {c:UInt8} {n:Int} (h:n≤15):(cD c n).length≤3:=by
 unfold cD;split
 ·simp
 ·split
  ·simp
  ·have:=fW (n:=n.toNat) (by omega);simp;omega
theorem uD (c:UInt8):cD c 0=[]:=rfl
theorem xK (c:UInt8):cD c 1=[c]:=rfl
theorem fZ {c:UInt8} {n:Nat} (h:2≤n):cD c (n:Int)=c::Lib.decDigits n:=by unfold cD;rw[if_neg (by omega),if_neg (by omega),Int.toNat_natCast]
theorem pC {m:M} (h:M.ok m=true):∀k,(kU m k).length≤3*k
 |0=>by simp[kU]
 |k+1=>by
  have h1:=pC h k
  have h2:(cD (CZ k) (qA m.x m.y m.d m.e k)).length≤3:=lL (by
   obtain⟨x1,x2,y1,y2,d1,d2,e1,e2⟩:=M.ok_iff.1 h;unfold qA
   split<;>assumption)
  unfold kU;simp;omega
theorem rW {m:M} (h:M.ok m=false):dS m=[]:=by unfold dS;rw[if_neg (by rw[h];simp)]
theorem jN {m:M} (h:M.ok m=true) (h0:cG m=[]):dS m=[49]:=by unfold dS;rw[if_pos h,if_pos h0]
theorem eS {m:M} (h:M.ok m=true) (h0:cG m≠[]):dS m=cG m:=by unfold dS;rw[if_pos h,if_neg h0]
def nY (k:Nat) (out:List UInt8):List UInt8:=(if k=0 then[]else Lib.decDigits k)++out
theorem yZ {k:Nat} (h:0<k) (out:List UInt8):nY (k / 10) (UInt8.ofNat (48+k%10)::out)=nY k out:=by
 unfold nY;rw[if_neg (show k≠0 by omega)];by_cases h1:k<10
 ·rw[if_pos (by omega),cQ h1,show k%10=k by omega];rfl
 ·rw[if_neg (by omega),cT h1];simp
theorem zA (out:List UInt8):nY 0 out=out:=by unfold nY;simp
theorem CA (k:Nat) (out:List UInt8):out.length≤(nY k out).length:=by unfold nY;simp
theorem vR {k:Nat} (h:0<k):nY k []=Lib.decDigits k:=by unfold nY;rw[if_neg (by omega)];simp
structure T where
 c:Int
 m:M
def eF (f:Nat→T) (i:Nat):Bool:=decide (1≤(f i).c∧(f i).c≤100)&&(f i).m.ok&&(decide (i=0)||decide (0<M.ord 1 (f (i-1)).m (f i).m))
def aJ (n:Nat) (f:Nat→T):Bool:=decide (n≤400∧∀i,i<n→eF f i=true)
def dZ (w:World) (b o:Nat) (t:T):Prop:=
 w.cell? ⟨b,o,none⟩=some (.int .i64 t.c)∧w.cell? ⟨b,o+1,none⟩=some (.int .i64 t.m.x)∧w.cell? ⟨b,o+2,none⟩=some (.int .i64 t.m.y)∧w.cell? ⟨b,o+3,none⟩=some (.int .i64 t.m.d)∧w.cell? ⟨b,o+4,none⟩=some (.int .i64 t.m.e)
def Rd (w:World) (a:Option Addr) (n cap:Nat) (f:Nat→T):Prop:=
 n≤cap∧n*40≤140737488351232∧(n=0∨∃b off,a=some ⟨b,off,none⟩∧b<w.heap.size∧∀i,i<n→dZ w b (off+i*5) (f i))
theorem dZ.below {w w':World} {b o:Nat} {t:T} {B:Nat} (h:dZ w b o t) (hb:Below B w w') (hB:b<B):dZ w' b o t:=by obtain⟨h0,h1,h2,h3,h4⟩:=h;exact⟨(hb.cell (p:=⟨b,o,none⟩) hB).trans h0,(hb.cell (p:=⟨b,o+1,none⟩) hB).trans h1,(hb.cell (p:=⟨b,o+2,none⟩) hB).trans h2,(hb.cell (p:=⟨b,o+3,none⟩) hB).trans h3,(hb.cell (p:=⟨b,o+4,none⟩) hB).trans h4⟩
theorem Rd.below {w w':World} {a:Option Addr} {n cap:Nat} {f:Nat→T} (h:Rd w a n cap f) (hb:Below w.heap.size w w'):Rd w' a n cap f:=by
 obtain⟨h1,h2,h3⟩:=h;refine⟨h1,h2,?_⟩;rcases h3 with h0|⟨b,off,rfl,hlt,hc⟩
 ·exact .inl h0
 ·exact .inr ⟨b,off,rfl,eH hlt hb.size,fun i hi=>(hc i hi).below hb hlt⟩
theorem gS (w:World) (a:Option Addr) (n cap:Nat) (f:Nat→T) (h:Rd w a n cap f):Calls Tryz.prog 29 #[.slice a n cap] w fun r w'=>r= .returned (.bool (aJ n f))∧Below w.heap.size w w':=by
 obtain⟨h1,h2,h3⟩:=h;have hn:(n:Int)≤140737488351232:=by omega
 by_cases hl:n≤400
 ·have hl':(n:Int)≤400:=by omega
  go_enter Tryz.func29,Tryz.ntmps29;go_wp2;go_loopw [3] (fun i wr=>∃k:Nat,k≤n∧i= .int .i64 k∧Below w.heap.size w wr∧∀j,j<k→eF f j=true) (fun i _=>n-(intOf i).toNat);case atStart=>exact⟨0,mE _,rfl,aD _ _,fun j hj=>absurd hj (Nat.not_lt_zero _)⟩
  case round=>
   obtain⟨k,hk,rfl,hB,hok⟩:=hrel;by_cases hlt:k<n
   ·rcases h3 with h0|⟨b,off,rfl,hblt,hcl⟩
    ·omega
    have hkn:(k:Int)<(n:Int):=by omega
    have hbr:b<wr.heap.size:=eH hblt hB.size;have ne:=dF.there wr
    have hck:=(hcl k hlt).below hB hblt;have s0:∀u:dF wr,u.1.cell? ⟨b,off+k*5,none⟩=some (.int .i64 (f k).c):=fun u=>(u.cell hbr).trans hck.1
    have s1:∀u:dF wr,u.1.cell? ⟨b,off+k*5+1,none⟩=some (.int .i64 (f k).m.x):=fun u=>(u.cell hbr).trans hck.2.1;have s2:∀u:dF wr,u.1.cell? ⟨b,off+k*5+2,none⟩=some (.int .i64 (f k).m.y):=fun u=>(u.cell hbr).trans hck.2.2.1
    have s3:∀u:dF wr,u.1.cell? ⟨b,off+k*5+3,none⟩=some (.int .i64 (f k).m.d):=fun u=>(u.cell hbr).trans hck.2.2.2.1;have s4:∀u:dF wr,u.1.cell? ⟨b,off+k*5+4,none⟩=some (.int .i64 (f k).m.e):=fun u=>(u.cell hbr).trans hck.2.2.2.2
    clear hck;have ho:eF f k=(decide (1≤(f k).c∧(f k).c≤100)&&(f k).m.ok&&(decide (k=0)||decide (0<M.ord 1 (f (k-1)).m (f k).m))):=rfl
    have hno:eF f k=false→aJ n f=false:=fun hf=>by
     simp only[aJ,decide_eq_false_iff_not];intro hh;have:=hh.2 k hlt
     rw[hf]at this;cases this
    by_cases hc:1≤(f k).c∧(f k).c≤100
    ·obtain⟨c1,c2⟩:=hc;cases hm:(f k).m.ok
     ·have HF:Hid (aJ n f=false):=hno (by rw[ho,hm];simp);clear hno ho hcl hok;go_wp2_with fail;refine aS (by kernel_rfl) (by kernel_rfl) ?_;repeat(go_big_quiet_step (first|(go_at_call 54;exact fX (aN _ _ _ _ c1 c2))|(go_at_call 60;exact bD (fU hm _))))
      refine wpQuiet_nil ?_;rintro _ ⟨u,rfl⟩;go_wp2;go_ret;exact⟨by rw[HF.out];rfl,hB.trans (u.2.mono hB.size)⟩
     ·by_cases hk0:k=0
      ·have ht:eF f k=true:=by rw[ho,hm,decide_eq_true (p:=1≤(f k).c∧(f k).c≤100) ⟨c1,c2⟩,decide_eq_true hk0];rfl
       have hok':Hid (∀j,j<k+1→eF f j=true):=fun j hj=>by
        by_cases hjk:j=k
        ·rw[hjk];exact ht
        ·exact hok j (by omega)
       have dk:decide (0<k)=false:=decide_eq_false (by omega);clear hno ho hcl hok ht hk0;go_wp2_with fail;refine aS (by kernel_rfl) (by kernel_rfl) ?_;repeat(go_big_quiet_step (first|(go_at_call 54;exact fX (aN _ _ _ _ c1 c2))|(go_at_call 60;exact bD (fU hm _))))
       refine wpQuiet_nil ?_;rintro _ ⟨u,rfl⟩;go_wp2;go_roundw;case rel=>exact⟨k+1,by omega,by go_num,hB.trans (u.2.mono hB.size),hok'.out⟩
       case measure=>simp[intOf];omega
      ·have hj:k-1<n:=by omega
       have hcj:=(hcl (k-1) hj).below hB hblt;have p1:∀u:dF wr,u.1.cell? ⟨b,off+(k-1)*5+1,none⟩=some (.int .i64 (f (k-1)).m.x):=fun u=>(u.cell hbr).trans hcj.2.1
       have p2:∀u:dF wr,u.1.cell? ⟨b,off+(k-1)*5+2,none⟩=some (.int .i64 (f (k-1)).m.y):=fun u=>(u.cell hbr).trans hcj.2.2.1;have p3:∀u:dF wr,u.1.cell? ⟨b,off+(k-1)*5+3,none⟩=some (.int .i64 (f (k-1)).m.d):=fun u=>(u.cell hbr).trans hcj.2.2.2.1
       have p4:∀u:dF wr,u.1.cell? ⟨b,off+(k-1)*5+4,none⟩=some (.int .i64 (f (k-1)).m.e):=fun u=>(u.cell hbr).trans hcj.2.2.2.2;clear hcj;have dk:decide (0<k)=true:=decide_eq_true (by omega)
       have hk1:(0:Int)<(k:Int):=by omega
       have hk2:(k:Int)-1<(n:Int):=by omega
       have hk3:(0:Int)≤(k:Int)-1:=by omega
       by_cases hq:0<M.ord 1 (f (k-1)).m (f k).m
       ·have ht:eF f k=true:=by rw[ho,hm,decide_eq_true (p:=1≤(f k).c∧(f k).c≤100) ⟨c1,c2⟩,decide_eq_true hq];simp
        have hok':Hid (∀j,j<k+1→eF f j=true):=fun j hj=>by
         by_cases hjk:j=k
         ·rw[hjk];exact ht
         ·exact hok j (by omega)
        have dq:decide (M.ord 1 ⟨(f (k-1)).m.x,(f (k-1)).m.y,(f (k-1)).m.d,(f (k-1)).m.e⟩ ⟨(f k).m.x,(f k).m.y,(f k).m.d,(f k).m.e⟩≤0)=false:=decide_eq_false (Int.not_le.2 hq);clear hno ho hcl hok ht hk0 hq;go_wp2_with fail;refine aS (by kernel_rfl) (by kernel_rfl) ?_;repeat(go_big_quiet_step (first|(go_at_call 54;exact fX (aN _ _ _ _ c1 c2))|(go_at_call 60;exact bD (fU hm _))|(go_at_call 61;exact bD (DG _ _ _ _ _ _ _ _ _))))
        refine wpQuiet_nil ?_;rintro _ ⟨u,rfl⟩;go_wp2;go_roundw;case rel=>exact⟨k+1,by omega,by go_num,hB.trans (u.2.mono hB.size),hok'.out⟩
        case measure=>simp[intOf];omega
       ·have HF:Hid (aJ n f=false):=hno (by rw[ho,hm];simp[hk0,hq]);have dq:decide (M.ord 1 ⟨(f (k-1)).m.x,(f (k-1)).m.y,(f (k-1)).m.d,(f (k-1)).m.e⟩ ⟨(f k).m.x,(f k).m.y,(f k).m.d,(f k).m.e⟩≤0)=true:=decide_eq_true (Int.not_lt.1 hq)
        clear hno ho hcl hok hk0 hq;go_wp2_with fail;refine aS (by kernel_rfl) (by kernel_rfl) ?_;repeat(go_big_quiet_step (first|(go_at_call 54;exact fX (aN _ _ _ _ c1 c2))|(go_at_call 60;exact bD (fU hm _))|(go_at_call 61;exact bD (DG _ _ _ _ _ _ _ _ _))))
        refine wpQuiet_nil ?_;rintro _ ⟨u,rfl⟩;go_wp2;go_ret;exact⟨by rw[HF.out];rfl,hB.trans (u.2.mono hB.size)⟩
    ·have HF:Hid (aJ n f=false):=hno (by rw[ho];simp[hc]);have hc':(f k).c<1∨(1≤(f k).c∧100<(f k).c):=by omega
     clear hc hno ho hcl hok;go_wp2_with fail;refine aS (by kernel_rfl) (by kernel_rfl) ?_;repeat(go_big_quiet_step ((go_at_call 54;exact fX (aL _ _ _ _ hc'))))
     refine wpQuiet_nil ?_;rintro _ ⟨u,rfl⟩;go_wp2;go_ret;exact⟨by rw[HF.out];rfl,hB.trans (u.2.mono hB.size)⟩
   ·go_wp2;go_ret;have hp:aJ n f=true:=by simp only[aJ,decide_eq_true_eq];exact⟨hl,fun i hi=>hok i (by omega)⟩
    exact⟨by rw[hp];rfl,hB⟩
 ·have hl':(400:Int)<(n:Int):=by omega
  have hp:aJ n f=false:=by simp only[aJ,decide_eq_false_iff_not];exact fun h=>hl h.1
  rw[hp];go_enter Tryz.func29,Tryz.ntmps29;go_wp2;go_ret;exact⟨rfl,aD _ _⟩
open Go.Shelf Go.RowKit
theorem FV {n k:Nat} (h:n<10 ^ (k+1)):(Lib.decDigits n).length≤k+1:=by
 rw[Lib.decDigits_length];induction k generalizing n with
 |zero=>rw[Lib.nDigits_small (by simpa using h)];omega
 |succ k ih=>
  by_cases q:n<10
  ·rw[Lib.nDigits_small q];omega
  ·rw[Lib.nDigits_big q];have:=ih (n:=n / 10) (by rw[Nat.pow_succ]at h;omega)
   omega
theorem zB {n:Nat} (h:n≤9223372036854775807):(Lib.decDigits n).length≤20:=FV (k:=19) (by omega)
def vJ (c:Int):List UInt8:=Lib.decDigits c.toNat
def eP (t:T):List UInt8:=if t.m.x=0∧t.m.y=0∧t.m.d=0∧t.m.e=0 then vJ t.c else if t.c=1 then dS t.m else vJ t.c++dS t.m
def oD (f:Nat→T):Nat→List UInt8
 |0=>[]
 |k+1=>(if k=0 then[]else oD f k++[43])++eP (f k)
def bQ (n:Nat) (f:Nat→T):List UInt8:=if aJ n f=true then(if n=0 then[48]else oD f n)else[]
theorem yB {n:Nat} {f:Nat→T} (h:aJ n f=false):bQ n f=[]:=by unfold bQ;rw[if_neg (by rw[h];simp)]
theorem mM {n:Nat} {f:Nat→T} (h:aJ n f=true) (h0:n=0):bQ n f=[48]:=by unfold bQ;rw[if_pos h,if_pos h0]
theorem nR {n:Nat} {f:Nat→T} (h:aJ n f=true) (h0:n≠0):bQ n f=oD f n:=by unfold bQ;rw[if_pos h,if_neg h0]
theorem IH {f:Nat→T} {i:Nat} (h:eF f i=true):(1≤(f i).c∧(f i).c≤100)∧(f i).m.ok=true:=by unfold eF at h;simp only[Bool.and_eq_true,decide_eq_true_eq]at h;exact h.1
theorem cN {n:Nat} {f:Nat→T} (h:aJ n f=true):n≤400∧∀i,i<n→(1≤(f i).c∧(f i).c≤100)∧(f i).m.ok=true:=by have h':=of_decide_eq_true h;exact⟨h'.1,fun i hi=>IH (h'.2 i hi)⟩
theorem FU {c:Int} (h:c≤100):(vJ c).length≤4:=jG (by omega)
theorem lT {m:M} (h:M.ok m=true):(dS m).length≤12:=by
 unfold dS;rw[if_pos h];split
 ·simp
 ·have:=pC h 4;unfold cG;omega
theorem ET {t:T} (hc:t.c≤100) (h:M.ok t.m=true):(eP t).length≤16:=by
 have h1:=FU hc;have h2:=lT h
 unfold eP;split
 ·omega
 ·split
  ·omega
  ·rw[List.length_append];omega
theorem lO {f:Nat→T}:∀k,(∀i,i<k→(1≤(f i).c∧(f i).c≤100)∧(f i).m.ok=true)→(oD f k).length≤17*k
 |0,_=>by simp[oD]
 |k+1,h=>by
  have h1:=lO k (fun i hi=>h i (by omega));have h2:=ET (h k (by omega)).1.2 (h k (by omega)).2
  unfold oD;rw[List.length_append];split
  ·simp;omega
  ·rw[List.length_append];simp;omega
theorem jJ {c:UInt8} {n:Int} (h:1≤n):∃r,cD c n=c::r:=by
 unfold cD;rw[if_neg (by omega)];split
 ·exact⟨[],rfl⟩
 ·exact⟨_,rfl⟩
theorem nL {c:UInt8} {n:Int} (h:n≤0):cD c n=[]:=by unfold cD;rw[if_pos h]
theorem gY {m:M} (h:M.ok m=true) (h0:¬(m.x=0∧m.y=0∧m.d=0∧m.e=0)):∃c r,cG m=c::r∧(c=120∨c=121∨c=100∨c=101):=by
 obtain⟨x1,x2,y1,y2,d1,d2,e1,e2⟩:=M.ok_iff.1 h;rw[gN];by_cases hx:1≤m.x
 ·obtain⟨r,hr⟩:=jJ (c:=120) hx;exact⟨120,_,by rw[hr];rfl,.inl rfl⟩
 rw[nL (c:=120) (by omega),List.nil_append];by_cases hy:1≤m.y
 ·obtain⟨r,hr⟩:=jJ (c:=121) hy;exact⟨121,_,by rw[hr];rfl,.inr (.inl rfl)⟩
 rw[nL (c:=121) (by omega),List.nil_append];by_cases hd:1≤m.d
 ·obtain⟨r,hr⟩:=jJ (c:=100) hd;exact⟨100,_,by rw[hr];rfl,.inr (.inr (.inl rfl))⟩
 rw[nL (c:=100) (by omega),List.nil_append];by_cases he:1≤m.e
 ·obtain⟨r,hr⟩:=jJ (c:=101) he;exact⟨101,_,hr,.inr (.inr (.inr rfl))⟩
 ·exact absurd ⟨by omega,by omega,by omega,by omega⟩ h0
theorem zM {m:M} (h:M.ok m=true) (h0:¬(m.x=0∧m.y=0∧m.d=0∧m.e=0)):dS m≠[49]∧dS m≠[]:=by obtain⟨c,r,e,hc⟩:=gY h h0;rw[eS h (by rw[e];simp),e];refine⟨fun q=>?_,by simp⟩;rw[List.cons.injEq]at q;rcases hc with rfl|rfl|rfl|rfl<;>exact absurd q.1 (by decide)
theorem LB:dS ⟨0,0,0,0⟩=[49]:=by decide+kernel
theorem pH (sep:List UInt8) (r:List (List UInt8)) (y:List UInt8):Lib.joinTail sep (r++[y])=Lib.joinTail sep r++sep++y:=by unfold Lib.joinTail;simp
theorem qH (sep:List UInt8) (l:List (List UInt8)) (y:List UInt8):Lib.join (l++[y]) sep=(if l.length=0 then[]else Lib.join l sep++sep)++y:=by
 cases l with
 |nil=>simp[Lib.join_one]
 |cons x r=>rw[List.cons_append,Lib.join_cons,Lib.join_cons,pH,if_neg (by simp)];simp
def sT (f:Nat→T) (k:Nat):List (List UInt8):=(List.range k).map fun i=>eP (f i)
theorem mB (f:Nat→T) (k:Nat):(sT f k).length=k:=by simp[sT]
theorem vG (f:Nat→T) (k:Nat):sT f (k+1)=sT f k++[eP (f k)]:=by simp[sT,List.range_succ]
theorem oF (f:Nat→T):∀k,Lib.join (sT f k) [43]=oD f k
 |0=>by simp[sT,oD,Lib.join_nil]
 |k+1=>by rw[vG,qH,mB,oF f k];rfl
abbrev Tb (w : World) : Prop := Lib.TabIs Tryz.prog w "internal/strconv.uint64pow10" .u64 Lib.pow10Tab
theorem Tb.below {w w':World} (h:Tb w) (hb:Below w.heap.size w w'):Tb w':=Lib.tabBelow_of_tabIs h w' hb
shelf_lay LaysM.n171 Nm 171 at Tryz as layM171
theorem xN (n:Nat) (hn:n≤9223372036854775807) (w:World) (h:Tb w):Calls Tryz.prog 44 #[.int .i64 (n:Int)] w fun e w'=>e= .returned (.string ⟨(Lib.decDigits n).toArray⟩)∧Below w.heap.size w w':=by
 refine(Any.strconv_Itoa layM171 (n:Int) (by omega) (by omega) w h).mono ?_;rintro e w' ⟨rfl,k,os,rfl⟩;refine⟨?_,?_⟩
 ·unfold Lib.itoa;rw[if_neg (by omega),Int.toNat_natCast]
 ·exact Lib.below_grow _ _ (Nat.le_refl _) _ _
def oI:Go.Shelf.Ren:=⟨fun|0=>0|1=>1|2=>2|103=>203|122=>176|125=>210|128=>225|129=>166|138=>162|143=>97|145=>36|147=>98|156=>52|165=>84|166=>85|167=>128|169=>86|170=>129|171=>44|172=>159|195=>184|197=>180|205=>213|206=>228|210=>214|215=>194|217=>130|218=>185|219=>95|220=>65|221=>136|224=>132|225=>131|240=>122|241=>123|243=>76|244=>181|245=>182|246=>109|247=>198|260=>197|266=>155|267=>133|268=>161|276=>153|277=>154|279=>199|280=>200|281=>201|282=>202|283=>138|284=>139|285=>140|286=>141|287=>211|314=>156|316=>212|317=>165|318=>167|319=>168|320=>169|321=>226|322=>227|329=>230|330=>231|337=>187|338=>188|347=>235|348=>236|349=>237|350=>238|351=>239|352=>240|353=>241|354=>242|355=>243|356=>244|357=>245|358=>246|359=>247|360=>248|361=>249|362=>250|363=>253|364=>251|365=>252|366=>254|367=>265|n=>n,fun|0=>0|1=>1|2=>2|3=>3|4=>4|5=>5|6=>6|7=>7|8=>8|9=>9|10=>10|11=>11|12=>12|13=>13|14=>14|15=>15|16=>16|17=>17|18=>18|19=>19|20=>20|21=>21|22=>228|24=>199|25=>200|26=>115|27=>108|28=>70|31=>30|37=>35|38=>40|43=>104|46=>135|47=>177|51=>166|52=>189|53=>144|54=>145|55=>134|59=>53|60=>54|62=>109|67=>73|68=>47|69=>170|70=>92|71=>93|72=>94|73=>95|74=>96|75=>97|76=>98|77=>99|78=>133|80=>100|81=>72|83=>61|84=>116|85=>194|86=>195|101=>33|102=>32|103=>50|104=>29|105=>185|106=>186|108=>215|111=>130|113=>141|114=>49|119=>207|127=>129|128=>187|131=>222|137=>208|138=>209|139=>210|143=>225|144=>226|145=>227|146=>167|150=>172|151=>168|164=>163|165=>164|166=>165|167=>193|168=>196|169=>197|170=>198|171=>143|172=>146|173=>147|174=>148|175=>211|176=>212|182=>217|183=>218|209=>213|210=>214|211=>174|212=>175|213=>176|214=>224|218=>229|219=>230|220=>231|222=>233|228=>235|229=>106|232=>202|233=>203|238=>237|239=>238|240=>239|241=>240|242=>241|243=>242|244=>243|245=>244|246=>245|247=>246|248=>247|249=>248|n=>n,fun n=>n⟩
theorem CV:Lays.n156 Tryz.prog oI where
 mixed:=by kernel_rfl
 f156:=Tryz.func52.trans (congrArg some (by kernel_rfl))
 f165:=Tryz.func84.trans (congrArg some (by kernel_rfl))
 f166:=Tryz.func85.trans (congrArg some (by kernel_rfl))
 f169:=Tryz.func86.trans (congrArg some (by kernel_rfl))
 f240:=Tryz.func122.trans (congrArg some (by kernel_rfl))
 f241:=Tryz.func123.trans (congrArg some (by kernel_rfl))
 f276:=Tryz.func153.trans (congrArg some (by kernel_rfl))
 f277:=Tryz.func154.trans (congrArg some (by kernel_rfl))
 t0:=Tryz.underlying0
 a0:=Tryz.isAgg0
 z0:=Tryz.sizeOf0
 v0:=Tryz.zeroValue0
 t3:=Tryz.underlying3
 a3:=Tryz.isAgg3
 z3:=Tryz.sizeOf3
 v3:=Tryz.zeroValue3
 t4:=Tryz.underlying4
 a4:=Tryz.isAgg4
 z4:=Tryz.sizeOf4
 v4:=Tryz.zeroValue4
 t9:=Tryz.underlying9
 a9:=Tryz.isAgg9
 z9:=Tryz.sizeOf9
 v9:=Tryz.zeroValue9
 t20:=Tryz.underlying20
 a20:=Tryz.isAgg20
 z20:=Tryz.sizeOf20
 v20:=Tryz.zeroValue20
 t31:=Tryz.underlying30
 a31:=Tryz.isAgg30
 z31:=Tryz.sizeOf30
 v31:=Tryz.zeroValue30
 t37:=Tryz.underlying35
 a37:=Tryz.isAgg35
 z37:=Tryz.sizeOf35
 v37:=Tryz.zeroValue35
 t70:=Tryz.underlying92
 a70:=Tryz.isAgg92
 z70:=Tryz.sizeOf92
 v70:=Tryz.zeroValue92
 t72:=Tryz.underlying94
 a72:=Tryz.isAgg94
 z72:=Tryz.sizeOf94
 v72:=Tryz.zeroValue94
 t75:=Tryz.underlying97
 a75:=Tryz.isAgg97
 z75:=Tryz.sizeOf97
 v75:=Tryz.zeroValue97
 t76:=Tryz.underlying98
 a76:=Tryz.isAgg98
 z76:=Tryz.sizeOf98
 v76:=Tryz.zeroValue98
 t127:=Tryz.underlying129
 a127:=Tryz.isAgg129
 z127:=Tryz.sizeOf129
 v127:=Tryz.zeroValue129
 t164:=Tryz.underlying163
 a164:=Tryz.isAgg163
 z164:=Tryz.sizeOf163
 v164:=Tryz.zeroValue163
theorem uA:Builder.Extra Tryz.prog oI where
 sizeBuilder:=by kernel_rfl
 liesBuilder:=by kernel_rfl
 t5:=Tryz.underlying5
 a5:=Tryz.isAgg5
 z5:=Tryz.sizeOf5
 v5:=Tryz.zeroValue5
 infoByte:=by kernel_rfl
 cellsByte:=by kernel_rfl
 sizeByte:=by kernel_rfl
 neB5:=by decide
theorem MY (bk c:Nat) (xs:List ByteArray) (w:World) (hcells:∀(j:Nat) x,xs[j]? =some x→w.cell? ⟨bk,0+j,none⟩=some (.string x)) (hbk:bk<w.heap.size) (hN:xs.length≤140737488355328) (hcap:xs.length≤c) (hlen:(Lib.join (xs.map (·.data.toList)) [43]).length≤140737488355328):Calls Tryz.prog 52 #[.slice (some ⟨bk,0,none⟩) xs.length c,.string ⟨#[43]⟩] w fun e w'=>e= .returned (.string ⟨(Lib.join (xs.map (·.data.toList)) [43]).toArray⟩)∧Below w.heap.size w w':=
 Any.strings_Join CV uA bk 0 c xs ⟨#[43]⟩ w hcells hbk hN hcap hlen
end Go.Proofs.YtkcmamepoplcdaaGreatDoor
namespace Go.Proofs.YtkcmamepoplcdaaGreatDoor
open Go.RowKit
set_option linter.unusedVariables false
theorem bR {n B o0 o1 o2 o3 o4:Nat} {a w:World} (h:Below n a w) (hB:n≤B) (u0 u1 u2 u3 u4:Value):Below n a (((((w.setCell ⟨B,o0,none⟩ u0).setCell ⟨B,o1,none⟩ u1).setCell ⟨B,o2,none⟩ u2).setCell ⟨B,o3,none⟩ u3).setCell ⟨B,o4,none⟩ u4):=
 ((((h.setCell hB u0).setCell hB u1).setCell hB u2).setCell hB u3).setCell hB u4
def cf (f:Nat→T) (j:Nat):Value:=if j%5=0 then .int .i64 (f (j / 5)).c else if j%5=1 then .int .i64 (f (j / 5)).m.x else if j%5=2 then .int .i64 (f (j / 5)).m.y else if j%5=3 then .int .i64 (f (j / 5)).m.d else .int .i64 (f (j / 5)).m.e
theorem LZ (f:Nat→T) (i:Nat):cf f (i*5)= .int .i64 (f i).c:=by unfold cf;rw[if_pos (by omega),show i*5 / 5=i by omega]
theorem MA (f:Nat→T) (i:Nat):cf f (i*5+1)= .int .i64 (f i).m.x:=by unfold cf;rw[if_neg (by omega),if_pos (by omega),show(i*5+1) / 5=i by omega]
theorem MB (f:Nat→T) (i:Nat):cf f (i*5+2)= .int .i64 (f i).m.y:=by unfold cf;rw[if_neg (by omega),if_neg (by omega),if_pos (by omega),show(i*5+2) / 5=i by omega]
theorem ML (f:Nat→T) (i:Nat):cf f (i*5+3)= .int .i64 (f i).m.d:=by unfold cf;rw[if_neg (by omega),if_neg (by omega),if_neg (by omega),if_pos (by omega),show(i*5+3) / 5=i by omega]
theorem MM (f:Nat→T) (i:Nat):cf f (i*5+4)= .int .i64 (f i).m.e:=by unfold cf;rw[if_neg (by omega),if_neg (by omega),if_neg (by omega),if_neg (by omega),show(i*5+4) / 5=i by omega]
def Own (w:World) (g n:Nat) (f:Nat→T):Prop:=w.rowIs g 79 (n*5) (cf f)
theorem Own.cells {w:World} {g n:Nat} {f:Nat→T} (h:Own w g n f) {i:Nat} (hi:i<n):dZ w g (0+i*5) (f i):=by rw[Nat.zero_add];exact⟨by rw[h.cell (by omega),LZ],by rw[h.cell (by omega),MA],by rw[h.cell (by omega),MB],by rw[h.cell (by omega),ML],by rw[h.cell (by omega),MM]⟩
theorem Own.rd {w:World} {g n:Nat} {f:Nat→T} (h:Own w g n f) (hn:n*40≤140737488351232):Rd w (some ⟨g,0,none⟩) n n f:=
 ⟨Nat.le_refl _,hn,.inr ⟨g,0,rfl,h.lt,fun i hi=>h.cells hi⟩⟩
theorem Own.below {w w':World} {g n B:Nat} {f:Nat→T} (h:Own w g n f) (hb:Below B w w') (hg:g<B):Own w' g n f:=h.of_block (hb.block g hg)
theorem CP:(Tryz.prog.info? 79).map (fun i=>(i.zero,i.size,i.bytes))=some (some (.agg #[.int .i64 0,.int .i64 0,.int .i64 0,.int .i64 0,.int .i64 0]),5,40):=by kernel_rfl
def Wr (w:World) (a:Option Addr) (n:Nat) (f:Nat→T):Prop:=
 n=0∨∃g off N F,a=some ⟨g,off,none⟩∧w.rowIs g 79 N F∧off+n*5≤N∧∀j,j<n*5→F (off+j)=cf f j
def mk (k:Int) (i:Nat):T:=⟨k+5*i,⟨k+5*i+1,k+5*i+2,k+5*i+3,k+5*i+4⟩⟩
theorem vY (w:World) (r:Option Nat):w.grownBy w r:=⟨rfl,rfl,rfl,Nat.le_refl _,fun _ _ _=>rfl⟩
end Go.Proofs.YtkcmamepoplcdaaGreatDoor
