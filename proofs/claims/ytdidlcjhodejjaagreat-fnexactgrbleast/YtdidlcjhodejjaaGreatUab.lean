/-
  A region that draws its order, whose callees make memory of their own but hand back one value whatever the world: one wa
-/
import Derived.Test.YtdidlcjhodejjaaGreatRows
import Derived.WalkKit
import Derived.Deep.QuietTactic
import Derived.BigQuiet
import Derived.Test.YtdidlcjhodejjaaGreatUaa
import Derived.WalkSmall
namespace Go.Proofs.YtdidlcjhodejjaaGreat
open Go.RowKit
def Ext (w:World):Type:=Subtype (fun u:World=>Below w.heap.size w u)
theorem Ext.there (w:World):Nonempty (Ext w):=⟨⟨w,Below.refl _ _⟩⟩
theorem Ext.cell {w:World} (x:Ext w) {b o:Nat} (h:b<w.heap.size):x.1.cell? ⟨b,o,none⟩=w.cell? ⟨b,o,none⟩:=x.2.cell (p:=⟨b,o,none⟩) h
theorem wp_region_ext {P:Program} {id:Nat} {Q:Exit→Act→World→Prop} {a:Act} {w:World} {l:List Oper} (hm:P.follows .mixedOrders=true) (hB:Region.lexB .any l.toArray=true)
  (h:wpQuiet P l.toArray (fun u=>∃ x:Ext w,u=x.1) (fun a'=>∀ w',(∃ x:Ext w,w'=x.1)→Q .normal a' w') l a):(Code.region id l.toArray true).wp P Q a w:=
 wp_region_quiet (C:=fun u=>∃ x:Ext w,u=x.1) hm hB ⟨⟨_,(Below.refl _ _).drew⟩,rfl⟩ (by simpa using h)
theorem ext_same {P:Program} {f:FuncId} {args:Array Value} {w:World} {x:Ext w} {v:Value}
  (h:Calls P f args x.1 fun e w'=>e=.returned v∧w'=x.1):Calls P f args x.1 fun e w''=>e=.returned v∧∃ y:Ext w,w''=y.1:=
 h.mono fun _ _ ⟨he,hm⟩=>⟨he,x,hm⟩
theorem ext_grows {P:Program} {f:FuncId} {args:Array Value} {w:World} {x:Ext w} {v:Value}
  (h:Calls P f args x.1 fun e w'=>e=.returned v∧Below x.1.heap.size x.1 w'):Calls P f args x.1 fun e w''=>e=.returned v∧∃ y:Ext w,w''=y.1:=
 h.mono fun _ w' ⟨he,hm⟩=>⟨he,⟨w',x.2.trans (hm.mono x.2.size)⟩,rfl⟩
end Go.Proofs.YtdidlcjhodejjaaGreat
namespace Go.Proofs.YtdidlcjhodejjaaGreat
open Go.RowKit
set_option linter.unusedVariables false
theorem bel_one (w:World) (A:Obj):Below w.heap.size w (w.alloc A):=(Below.refl _ _).alloc (Nat.le_refl _) _
theorem ext_box {w:World} {t:TypeId} (A:Array Value) (i:Nat) (v:Value) (h:A[i]?=some v):∀ u:Ext (w.alloc (.cells A t)),u.1.cell? ⟨w.heap.size,i,none⟩=some v:=fun u=>by
 rw [u.cell (by simp),World.cell?_alloc_at _ _ _ _ rfl];exact h
set_option maxHeartbeats 400000 in
theorem countsI (x y d e:Int) (w:World) :
  Calls Tryz.prog 107 #[.agg #[.int .i64 x,.int .i64 y,.int .i64 d,.int .i64 e]] w fun r w'=>r=.returned (.agg #[.int .i64 x,.int .i64 y,.int .i64 d,.int .i64 e])∧Below w.heap.size w w':=by
 go_enter Tryz.func107,Tryz.ntmps107
 go_wp2
 refine bodyPost_ret (v:=.agg #[.int .i64 x,.int .i64 y,.int .i64 d,.int .i64 e]) (by simp [results,Tryz.results107,go_sem]) rfl ⟨rfl,?_⟩
 exact bel_two w _ _
set_option maxHeartbeats 400000 in
theorem degreeI (x y d e:Int) (w:World) (h:M.ok ⟨x,y,d,e⟩=true) :
  Calls Tryz.prog 144 #[.agg #[.int .i64 x,.int .i64 y,.int .i64 d,.int .i64 e]] w fun r w'=>r=.returned (.int .i64 (x+y+d+e))∧Below w.heap.size w w':=by
 obtain ⟨x1,x2,y1,y2,d1,d2,e1,e2⟩:=M.ok_iff.1 h
 simp only at x1 x2 y1 y2 d1 d2 e1 e2
 clear h
 go_enter Tryz.func144,Tryz.ntmps144
 go_wp2
 go_ret
 exact ⟨rfl,bel_one w _⟩
def rkL (m:M):Int:=((m.d * 16+m.e) * 16+m.x) * 16+m.y
def rkD (m:M):Int:=(m.x+m.y+m.d+m.e) * 65536+rkL m
def rkO (m:M):Int:=(m.d+m.x) * 65536+rkL m
set_option maxHeartbeats 400000 in
theorem rankLexI (x y d e:Int) (w:World) (h:M.ok ⟨x,y,d,e⟩=true) :
  Calls Tryz.prog 104 #[.agg #[.int .i64 x,.int .i64 y,.int .i64 d,.int .i64 e]] w fun r w'=>r=.returned (.int .i64 (rkL ⟨x,y,d,e⟩))∧Below w.heap.size w w':=by
 obtain ⟨x1,x2,y1,y2,d1,d2,e1,e2⟩:=M.ok_iff.1 h
 simp only at x1 x2 y1 y2 d1 d2 e1 e2
 clear h
 simp only [rkL]
 go_enter Tryz.func104,Tryz.ntmps104
 go_wp2
 go_ret
 exact ⟨rfl,bel_one w _⟩
set_option maxHeartbeats 1000000 in
theorem rankDegI (x y d e:Int) (w:World) (h:M.ok ⟨x,y,d,e⟩=true) :
  Calls Tryz.prog 103 #[.agg #[.int .i64 x,.int .i64 y,.int .i64 d,.int .i64 e]] w fun r w'=>r=.returned (.int .i64 (rkD ⟨x,y,d,e⟩))∧Below w.heap.size w w':=by
 obtain ⟨x1,x2,y1,y2,d1,d2,e1,e2⟩:=M.ok_iff.1 h
 simp only at x1 x2 y1 y2 d1 d2 e1 e2
 have HK:=Hid.mk' h
 have k1:0≤rkL ⟨x,y,d,e⟩:=by simp only [rkL];omega
 have k2:rkL ⟨x,y,d,e⟩≤65535:=by simp only [rkL];omega
 have r1:rkD ⟨x,y,d,e⟩=(x+y+d+e) * 65536+rkL ⟨x,y,d,e⟩:=rfl
 rw [r1]
 clear h r1
 go_enter Tryz.func103,Tryz.ntmps103
 go_wp2_with fail
 have B1:=Hid.mk' (bel_one w (.cells #[.int .i64 x,.int .i64 y,.int .i64 d,.int .i64 e] 40))
 have ne:=Ext.there (w.alloc (.cells #[.int .i64 x,.int .i64 y,.int .i64 d,.int .i64 e] 40))
 have s0:=ext_box (w:=w) (t:=40) #[.int .i64 x,.int .i64 y,.int .i64 d,.int .i64 e] 0 _ rfl
 have s1:=ext_box (w:=w) (t:=40) #[.int .i64 x,.int .i64 y,.int .i64 d,.int .i64 e] 1 _ rfl
 have s2:=ext_box (w:=w) (t:=40) #[.int .i64 x,.int .i64 y,.int .i64 d,.int .i64 e] 2 _ rfl
 have s3:=ext_box (w:=w) (t:=40) #[.int .i64 x,.int .i64 y,.int .i64 d,.int .i64 e] 3 _ rfl
 refine wp_region_ext (by kernel_rfl) (by kernel_rfl) ?_
 repeat (go_big_quiet_step (first | (go_at_call 144;exact ext_grows (degreeI _ _ _ _ _ HK.out)) | (go_at_call 104;exact ext_grows (rankLexI _ _ _ _ _ HK.out))))
 refine wpQuiet_nil ?_
 rintro _ ⟨u,rfl⟩
 go_wp2
 go_ret
 exact ⟨rfl,B1.out.trans (u.2.mono B1.out.size)⟩
set_option maxHeartbeats 1000000 in
theorem rankOutI (x y d e:Int) (w:World) (h:M.ok ⟨x,y,d,e⟩=true) :
  Calls Tryz.prog 105 #[.agg #[.int .i64 x,.int .i64 y,.int .i64 d,.int .i64 e]] w fun r w'=>r=.returned (.int .i64 (rkO ⟨x,y,d,e⟩))∧Below w.heap.size w w':=by
 obtain ⟨x1,x2,y1,y2,d1,d2,e1,e2⟩:=M.ok_iff.1 h
 simp only at x1 x2 y1 y2 d1 d2 e1 e2
 have HK:=Hid.mk' h
 have k1:0≤rkL ⟨x,y,d,e⟩:=by simp only [rkL];omega
 have k2:rkL ⟨x,y,d,e⟩≤65535:=by simp only [rkL];omega
 have r1:rkO ⟨x,y,d,e⟩=(d+x) * 65536+rkL ⟨x,y,d,e⟩:=rfl
 rw [r1]
 clear h r1
 go_enter Tryz.func105,Tryz.ntmps105
 go_wp2_with fail
 have B1:=Hid.mk' (bel_one w (.cells #[.int .i64 x,.int .i64 y,.int .i64 d,.int .i64 e] 40))
 have ne:=Ext.there (w.alloc (.cells #[.int .i64 x,.int .i64 y,.int .i64 d,.int .i64 e] 40))
 have s0:=ext_box (w:=w) (t:=40) #[.int .i64 x,.int .i64 y,.int .i64 d,.int .i64 e] 0 _ rfl
 have s1:=ext_box (w:=w) (t:=40) #[.int .i64 x,.int .i64 y,.int .i64 d,.int .i64 e] 1 _ rfl
 have s2:=ext_box (w:=w) (t:=40) #[.int .i64 x,.int .i64 y,.int .i64 d,.int .i64 e] 2 _ rfl
 have s3:=ext_box (w:=w) (t:=40) #[.int .i64 x,.int .i64 y,.int .i64 d,.int .i64 e] 3 _ rfl
 refine wp_region_ext (by kernel_rfl) (by kernel_rfl) ?_
 repeat (go_big_quiet_step (first | (go_at_call 144;exact ext_grows (degreeI _ _ _ _ _ HK.out)) | (go_at_call 104;exact ext_grows (rankLexI _ _ _ _ _ HK.out))))
 refine wpQuiet_nil ?_
 rintro _ ⟨u,rfl⟩
 go_wp2
 go_ret
 exact ⟨rfl,B1.out.trans (u.2.mono B1.out.size)⟩
def cnt (x y d e:Int):Nat→Int
 | 0=>x
 | 1=>y
 | 2=>d
 | _=>e
set_option maxHeartbeats 1000000 in
theorem monOkI (x y d e:Int) (w:World) :
  Calls Tryz.prog 64 #[.agg #[.int .i64 x,.int .i64 y,.int .i64 d,.int .i64 e]] w fun r w'=>r=.returned (.bool (M.ok ⟨x,y,d,e⟩))∧Below w.heap.size w w':=by
 have i0:∀ w:World,(Instr.index 129 (.agg #[.int .i64 x,.int .i64 y,.int .i64 d,.int .i64 e]) (.int .i64 0)).run Tryz.prog w=.ok (.int .i64 x) w:=fun _=>by kernel_rfl
 have i1:∀ w:World,(Instr.index 129 (.agg #[.int .i64 x,.int .i64 y,.int .i64 d,.int .i64 e]) (.int .i64 1)).run Tryz.prog w=.ok (.int .i64 y) w:=fun _=>by kernel_rfl
 have i2:∀ w:World,(Instr.index 129 (.agg #[.int .i64 x,.int .i64 y,.int .i64 d,.int .i64 e]) (.int .i64 2)).run Tryz.prog w=.ok (.int .i64 d) w:=fun _=>by kernel_rfl
 have i3:∀ w:World,(Instr.index 129 (.agg #[.int .i64 x,.int .i64 y,.int .i64 d,.int .i64 e]) (.int .i64 3)).run Tryz.prog w=.ok (.int .i64 e) w:=fun _=>by kernel_rfl
 go_enter Tryz.func64,Tryz.ntmps64
 go_wp2_with fail
 refine (countsI x y d e _).mono ?_
 rintro r w1 ⟨rfl,hb⟩
 have B1:=Hid.mk' (bel_next (bel_one w _) hb)
 clear hb
 go_wp2
 go_loop [7] (fun i=>∃ k:Nat,k≤4∧i=.int .i64 k∧Hid (∀ j,j<k→0≤cnt x y d e j∧cnt x y d e j≤15)) (fun i=>4 - (intOf i).toNat)
 case atStart=>exact ⟨0,by omega,rfl,fun j hj=>absurd hj (Nat.not_lt_zero _)⟩
 case round=>
  obtain ⟨k,hk,rfl,hok⟩:=hrel
  have hk5:k=4∨k=0∨k=1∨k=2∨k=3:=by omega
  rcases hk5 with rfl | rfl | rfl | rfl | rfl
  ·have hp:M.ok ⟨x,y,d,e⟩=true:=M.ok_iff.2 ⟨(hok.out 0 (by omega)).1,(hok.out 0 (by omega)).2,(hok.out 1 (by omega)).1,(hok.out 1 (by omega)).2,(hok.out 2 (by omega)).1,(hok.out 2 (by omega)).2,(hok.out 3 (by omega)).1,(hok.out 3 (by omega)).2⟩
   have HP:=Hid.mk' hp
   clear hp
   go_wp2
   go_ret
   exact ⟨by rw [HP.out];rfl,B1.out⟩
  ·by_cases h1:x<0
   ·have hp:Hid (M.ok ⟨x,y,d,e⟩=false):=M.ok_not.2 (fun h=>by simp only at h;omega)
    go_wp2
    go_ret
    exact ⟨by rw [hp.out];rfl,B1.out⟩
   ·by_cases h2:15<x
    ·have hp:Hid (M.ok ⟨x,y,d,e⟩=false):=M.ok_not.2 (fun h=>by simp only at h;omega)
     go_wp2
     go_ret
     exact ⟨by rw [hp.out];rfl,B1.out⟩
    ·have hn:Hid (∀ j,j<1→0≤cnt x y d e j∧cnt x y d e j≤15):=fun j hj=>by
      obtain rfl:j=0:=by omega
      exact ⟨Int.not_lt.1 h1,Int.not_lt.1 h2⟩
     go_wp2
     go_round
     case rel=>exact ⟨1,by omega,rfl,hn⟩
     case measure=>simp [intOf]
  ·by_cases h1:y<0
   ·have hp:Hid (M.ok ⟨x,y,d,e⟩=false):=M.ok_not.2 (fun h=>by simp only at h;omega)
    go_wp2
    go_ret
    exact ⟨by rw [hp.out];rfl,B1.out⟩
   ·by_cases h2:15<y
    ·have hp:Hid (M.ok ⟨x,y,d,e⟩=false):=M.ok_not.2 (fun h=>by simp only at h;omega)
     go_wp2
     go_ret
     exact ⟨by rw [hp.out];rfl,B1.out⟩
    ·have hn:Hid (∀ j,j<2→0≤cnt x y d e j∧cnt x y d e j≤15):=fun j hj=>by
      by_cases hj1:j<1
      ·exact hok.out j hj1
      ·obtain rfl:j=1:=by omega
       exact ⟨Int.not_lt.1 h1,Int.not_lt.1 h2⟩
     go_wp2
     go_round
     case rel=>exact ⟨2,by omega,rfl,hn⟩
     case measure=>simp [intOf]
  ·by_cases h1:d<0
   ·have hp:Hid (M.ok ⟨x,y,d,e⟩=false):=M.ok_not.2 (fun h=>by simp only at h;omega)
    go_wp2
    go_ret
    exact ⟨by rw [hp.out];rfl,B1.out⟩
   ·by_cases h2:15<d
    ·have hp:Hid (M.ok ⟨x,y,d,e⟩=false):=M.ok_not.2 (fun h=>by simp only at h;omega)
     go_wp2
     go_ret
     exact ⟨by rw [hp.out];rfl,B1.out⟩
    ·have hn:Hid (∀ j,j<3→0≤cnt x y d e j∧cnt x y d e j≤15):=fun j hj=>by
      by_cases hj1:j<2
      ·exact hok.out j hj1
      ·obtain rfl:j=2:=by omega
       exact ⟨Int.not_lt.1 h1,Int.not_lt.1 h2⟩
     go_wp2
     go_round
     case rel=>exact ⟨3,by omega,rfl,hn⟩
     case measure=>simp [intOf]
  ·by_cases h1:e<0
   ·have hp:Hid (M.ok ⟨x,y,d,e⟩=false):=M.ok_not.2 (fun h=>by simp only at h;omega)
    go_wp2
    go_ret
    exact ⟨by rw [hp.out];rfl,B1.out⟩
   ·by_cases h2:15<e
    ·have hp:Hid (M.ok ⟨x,y,d,e⟩=false):=M.ok_not.2 (fun h=>by simp only at h;omega)
     go_wp2
     go_ret
     exact ⟨by rw [hp.out];rfl,B1.out⟩
    ·have hn:Hid (∀ j,j<4→0≤cnt x y d e j∧cnt x y d e j≤15):=fun j hj=>by
      by_cases hj1:j<3
      ·exact hok.out j hj1
      ·obtain rfl:j=3:=by omega
       exact ⟨Int.not_lt.1 h1,Int.not_lt.1 h2⟩
     go_wp2
     go_round
     case rel=>exact ⟨4,by omega,rfl,hn⟩
     case measure=>simp [intOf]
theorem monOkI_of {x y d e:Int} {b:Bool} (h:M.ok ⟨x,y,d,e⟩=b) (w:World) :
  Calls Tryz.prog 64 #[.agg #[.int .i64 x,.int .i64 y,.int .i64 d,.int .i64 e]] w fun r w'=>r=.returned (.bool b)∧Below w.heap.size w w':=by
 rw [← h];exact monOkI x y d e w
end Go.Proofs.YtdidlcjhodejjaaGreat
namespace Go.Proofs.YtdidlcjhodejjaaGreat
open Go.RowKit
set_option linter.unusedVariables false
theorem c3_of {a b a' b':Int} (h1:a<b ↔ a'<b') (h2:b<a ↔ b'<a'):c3 a b=c3 a' b':=by unfold c3;simp only [h1,h2]
theorem rk_lex {a b:M} (ha:a.ok=true) (hb:b.ok=true):c3 (rkL a) (rkL b)=M.lex a b:=by
 obtain ⟨x1,x2,y1,y2,d1,d2,e1,e2⟩:=M.ok_iff.1 ha
 obtain ⟨x3,x4,y3,y4,d3,d4,e3,e4⟩:=M.ok_iff.1 hb
 by_cases hd:a.d=b.d
 ·by_cases he:a.e=b.e
  ·by_cases hx:a.x=b.x
   ·have h:M.lex a b=c3 a.y b.y:=by simp [M.lex,hd,he,hx]
    rw [h];exact c3_of (by unfold rkL;omega) (by unfold rkL;omega)
   ·have h:M.lex a b=c3 a.x b.x:=by simp [M.lex,hd,he,hx]
    rw [h];exact c3_of (by unfold rkL;omega) (by unfold rkL;omega)
  ·have h:M.lex a b=c3 a.e b.e:=by simp [M.lex,hd,he]
   rw [h];exact c3_of (by unfold rkL;omega) (by unfold rkL;omega)
 ·have h:M.lex a b=c3 a.d b.d:=by simp [M.lex,hd]
  rw [h];exact c3_of (by unfold rkL;omega) (by unfold rkL;omega)
theorem rk_deg {a b:M} (ha:a.ok=true) (hb:b.ok=true):c3 (rkD a) (rkD b)=M.ord 1 a b:=by
 obtain ⟨x1,x2,y1,y2,d1,d2,e1,e2⟩:=M.ok_iff.1 ha
 obtain ⟨x3,x4,y3,y4,d3,d4,e3,e4⟩:=M.ok_iff.1 hb
 have da:a.deg=a.x+a.y+a.d+a.e:=by simp [M.deg,ha]
 have db:b.deg=b.x+b.y+b.d+b.e:=by simp [M.deg,hb]
 have la:0≤rkL a∧rkL a≤65535:=by simp only [rkL];omega
 have lb:0≤rkL b∧rkL b≤65535:=by simp only [rkL];omega
 by_cases h:a.deg=b.deg
 ·have e1:M.ord 1 a b=M.lex a b:=by simp [M.ord,h]
  rw [e1,← rk_lex ha hb]
  rw [da,db] at h
  exact c3_of (by unfold rkD;omega) (by unfold rkD;omega)
 ·have e1:M.ord 1 a b=c3 a.deg b.deg:=by simp [M.ord,h]
  rw [e1,da,db]
  rw [da,db] at h
  exact c3_of (by unfold rkD;omega) (by unfold rkD;omega)
theorem rk_out {a b:M} (ha:a.ok=true) (hb:b.ok=true):c3 (rkO a) (rkO b)=M.ord 3 a b:=by
 obtain ⟨x1,x2,y1,y2,d1,d2,e1,e2⟩:=M.ok_iff.1 ha
 obtain ⟨x3,x4,y3,y4,d3,d4,e3,e4⟩:=M.ok_iff.1 hb
 have la:0≤rkL a∧rkL a≤65535:=by simp only [rkL];omega
 have lb:0≤rkL b∧rkL b≤65535:=by simp only [rkL];omega
 by_cases h:a.d+a.x=b.d+b.x
 ·have e1:M.ord 3 a b=M.lex a b:=by simp [M.ord,h]
  rw [e1,← rk_lex ha hb]
  exact c3_of (by unfold rkO;omega) (by unfold rkO;omega)
 ·have e1:M.ord 3 a b=c3 (a.d+a.x) (b.d+b.x):=by simp [M.ord,h]
  rw [e1]
  exact c3_of (by unfold rkO;omega) (by unfold rkO;omega)
theorem rk_two {a b:M} (ha:a.ok=true) (hb:b.ok=true):c3 (rkL a) (rkL b)=M.ord 2 a b:=by
 rw [rk_lex ha hb];simp [M.ord]
theorem nanI (a:Int) (w:World):Calls Tryz.prog 120 #[.int .i64 a] w fun r w'=>r=.returned (.bool false)∧w'=w:=by
 go_enter Tryz.func120,Tryz.ntmps120
 go_wp2
 go_ret
 exact ⟨by simp,rfl⟩
theorem compareI (a b:Int) (w:World):Calls Tryz.prog 76 #[.int .i64 a,.int .i64 b] w fun r w'=>r=.returned (.int .i64 (c3 a b))∧w'=w:=by
 by_cases h1:a<b
 ·have e1:c3 a b=-1:=by simp [c3,h1]
  rw [e1]
  go_enter Tryz.func76,Tryz.ntmps76
  go_wp2_with (first | (go_at_call 120;refine (nanI _ _).mono ?_;rintro r w' ⟨rfl,rfl⟩))
  go_ret
  exact ⟨rfl,rfl⟩
 ·by_cases h2:b<a
  ·have e1:c3 a b=1:=by simp [c3,h1,h2]
   rw [e1]
   go_enter Tryz.func76,Tryz.ntmps76
   go_wp2_with (first | (go_at_call 120;refine (nanI _ _).mono ?_;rintro r w' ⟨rfl,rfl⟩))
   go_ret
   exact ⟨rfl,rfl⟩
  ·have e1:c3 a b=0:=by simp [c3,h1,h2]
   rw [e1]
   go_enter Tryz.func76,Tryz.ntmps76
   go_wp2_with (first | (go_at_call 120;refine (nanI _ _).mono ?_;rintro r w' ⟨rfl,rfl⟩))
   go_ret
   exact ⟨rfl,rfl⟩
set_option maxHeartbeats 400000 in
theorem ordRankI_out (o:Int) (w:World) (h:o<1∨3<o):Calls Tryz.prog 62 #[.int .i64 o] w fun r w'=>r=.returned (.tuple #[.nilFunc,.bool false])∧Below w.heap.size w w':=by
 rcases h with h | h
 all_goals
  go_enter Tryz.func62,Tryz.ntmps62
  go_wp2
  go_ret2
  exact ⟨rfl,bel_one w _⟩
set_option maxHeartbeats 400000 in
theorem ordRankI1 (w:World):Calls Tryz.prog 62 #[.int .i64 1] w fun r w'=>r=.returned (.tuple #[.func (.func 103) #[] #[],.bool true])∧Below w.heap.size w w':=by
 go_enter Tryz.func62,Tryz.ntmps62
 go_wp2
 go_ret2
 exact ⟨rfl,bel_one w _⟩
set_option maxHeartbeats 400000 in
theorem ordRankI2 (w:World):Calls Tryz.prog 62 #[.int .i64 2] w fun r w'=>r=.returned (.tuple #[.func (.func 104) #[] #[],.bool true])∧Below w.heap.size w w':=by
 go_enter Tryz.func62,Tryz.ntmps62
 go_wp2
 go_ret2
 exact ⟨rfl,bel_one w _⟩
set_option maxHeartbeats 400000 in
theorem ordRankI3 (w:World):Calls Tryz.prog 62 #[.int .i64 3] w fun r w'=>r=.returned (.tuple #[.func (.func 105) #[] #[],.bool true])∧Below w.heap.size w w':=by
 go_enter Tryz.func62,Tryz.ntmps62
 go_wp2
 go_ret2
 exact ⟨rfl,bel_one w _⟩
theorem ordRankI_in (o:Int) (w:World) (h1:1≤o) (h2:o≤3):Calls Tryz.prog 62 #[.int .i64 o] w fun r w'=>∃ fv,r=.returned (.tuple #[fv,.bool true])∧Below w.heap.size w w':=by
 have ho3:o=1∨o=2∨o=3:=by omega
 rcases ho3 with rfl | rfl | rfl
 ·exact (ordRankI1 w).mono fun _ _ h=>⟨_,h⟩
 ·exact (ordRankI2 w).mono fun _ _ h=>⟨_,h⟩
 ·exact (ordRankI3 w).mono fun _ _ h=>⟨_,h⟩
set_option maxHeartbeats 1000000 in
theorem monMulI (x y d e x' y' d' e':Int) (w:World) :
  Calls Tryz.prog 181 #[.agg #[.int .i64 x,.int .i64 y,.int .i64 d,.int .i64 e],.agg #[.int .i64 x',.int .i64 y',.int .i64 d',.int .i64 e']] w fun r w'=>r=.returned (.tuple #[.agg #[.int .i64 (M.mul ⟨x,y,d,e⟩ ⟨x',y',d',e'⟩).1.x,.int .i64 (M.mul ⟨x,y,d,e⟩ ⟨x',y',d',e'⟩).1.y,.int .i64 (M.mul ⟨x,y,d,e⟩ ⟨x',y',d',e'⟩).1.d,.int .i64 (M.mul ⟨x,y,d,e⟩ ⟨x',y',d',e'⟩).1.e],.bool (M.mul ⟨x,y,d,e⟩ ⟨x',y',d',e'⟩).2])∧Below w.heap.size w w':=by
 cases ha:M.ok ⟨x,y,d,e⟩
 ·have r1:M.mul ⟨x,y,d,e⟩ ⟨x',y',d',e'⟩=(M.zero,false):=by simp [M.mul,ha]
  rw [r1]
  simp only [M.zero]
  go_enter Tryz.func181,Tryz.ntmps181
  go_wp2_with fail
  refine (monOkI _ _ _ _ _).mono ?_
  rw [ha]
  rintro r w1 ⟨rfl,hb1⟩
  obtain ⟨hc1,hf1⟩:=bcell hb1
  have hz1:w.heap.size+1+1<w1.heap.size:=by have:=hb1.size;simp at this;omega
  go_wp2
  refine bodyPost_ret (v:=.tuple #[.agg #[.int .i64 0,.int .i64 0,.int .i64 0,.int .i64 0],.bool false]) (by simp [results,Tryz.results181,go_sem, *]) rfl ⟨rfl,?_⟩
  exact bel_set4 (bel_next (bel_three w _ _ _) hb1) (by omega) _ _ _ _
 ·cases hb:M.ok ⟨x',y',d',e'⟩
  ·have r1:M.mul ⟨x,y,d,e⟩ ⟨x',y',d',e'⟩=(M.zero,false):=by simp [M.mul,hb]
   rw [r1]
   simp only [M.zero]
   clear r1
   go_enter Tryz.func181,Tryz.ntmps181
   go_wp2_with fail
   refine (monOkI _ _ _ _ _).mono ?_
   rw [ha]
   rintro r w1 ⟨rfl,hb1⟩
   obtain ⟨hc1,hf1⟩:=bcell hb1
   have hz1:w.heap.size+1+1<w1.heap.size:=by have:=hb1.size;simp at this;omega
   go_wp2_with fail
   refine (monOkI _ _ _ _ _).mono ?_
   rw [hb]
   rintro r w2 ⟨rfl,hb2⟩
   obtain ⟨hc2,hf2⟩:=bcell hb2
   have hz2:w.heap.size+1+1<w2.heap.size:=by have:=hb2.size;omega
   go_wp2
   refine bodyPost_ret (v:=.tuple #[.agg #[.int .i64 0,.int .i64 0,.int .i64 0,.int .i64 0],.bool false]) (by simp [results,Tryz.results181,go_sem, *]) rfl ⟨rfl,?_⟩
   exact bel_set4 (bel_next (bel_next (bel_three w _ _ _) hb1) hb2) (by omega) _ _ _ _
  ·obtain ⟨x1,x2,y1,y2,d1,d2,e1,e2⟩:=M.ok_iff.1 ha
   obtain ⟨x3,x4,y3,y4,d3,d4,e3,e4⟩:=M.ok_iff.1 hb
   simp only at x1 x2 y1 y2 d1 d2 e1 e2 x3 x4 y3 y4 d3 d4 e3 e4
   cases hs:M.ok ⟨x+x',y+y',d+d',e+e'⟩
   ·have r1:M.mul ⟨x,y,d,e⟩ ⟨x',y',d',e'⟩=(M.zero,false):=by simp [M.mul,M.sum,hs]
    rw [r1]
    simp only [M.zero]
    clear r1
    go_enter Tryz.func181,Tryz.ntmps181
    go_wp2_with fail
    refine (monOkI _ _ _ _ _).mono ?_
    rw [ha]
    rintro r w1 ⟨rfl,hb1⟩
    obtain ⟨hc1,hf1⟩:=bcell hb1
    have hz1:w.heap.size+1+1<w1.heap.size:=by have:=hb1.size;simp at this;omega
    have hz0:w.heap.size+1<w1.heap.size:=by omega
    have hzz:w.heap.size<w1.heap.size:=by omega
    go_wp2_with fail
    refine (monOkI _ _ _ _ _).mono ?_
    rw [hb]
    rintro r w2 ⟨rfl,hb2⟩
    obtain ⟨hc2,hf2⟩:=bcell hb2
    have hz2:w.heap.size+1+1<w2.heap.size:=by have:=hb2.size;omega
    go_wp2_with fail
    refine (monOkI _ _ _ _ _).mono ?_
    rw [hs]
    rintro r w3 ⟨rfl,hb3⟩
    obtain ⟨hc3,hf3⟩:=bcell (bel_next ((Below.refl w2.heap.size w2).alloc (Nat.le_refl _) _) hb3)
    have ht:∀ i,w3.cell? ⟨w2.heap.size,i,none⟩=#[Value.int .i64 (x+x'),.int .i64 (y+y'),.int .i64 (d+d'),.int .i64 (e+e')][i]?:=fun i=>by
     rw [hb3.cell (p:=⟨w2.heap.size,i,none⟩) (by simp),World.cell?_alloc_at _ _ _ _ rfl]
    have hB:=bel_next ((bel_next (bel_next (bel_three w _ _ _) hb1) hb2).alloc (bel_next (bel_next (bel_three w _ _ _) hb1) hb2).size _) hb3
    go_wp2
    refine bodyPost_ret (v:=.tuple #[.agg #[.int .i64 0,.int .i64 0,.int .i64 0,.int .i64 0],.bool false]) (by simp [results,Tryz.results181,go_sem, *]) rfl ⟨rfl,?_⟩
    exact bel_set4 hB (by omega) _ _ _ _
   ·have r1:M.mul ⟨x,y,d,e⟩ ⟨x',y',d',e'⟩=(⟨x+x',y+y',d+d',e+e'⟩,true):=by simp [M.mul,M.sum,hs,ha,hb]
    rw [r1]
    clear r1
    go_enter Tryz.func181,Tryz.ntmps181
    go_wp2_with fail
    refine (monOkI _ _ _ _ _).mono ?_
    rw [ha]
    rintro r w1 ⟨rfl,hb1⟩
    obtain ⟨hc1,hf1⟩:=bcell hb1
    have hz1:w.heap.size+1+1<w1.heap.size:=by have:=hb1.size;simp at this;omega
    have hz0:w.heap.size+1<w1.heap.size:=by omega
    have hzz:w.heap.size<w1.heap.size:=by omega
    go_wp2_with fail
    refine (monOkI _ _ _ _ _).mono ?_
    rw [hb]
    rintro r w2 ⟨rfl,hb2⟩
    obtain ⟨hc2,hf2⟩:=bcell hb2
    have hz2:w.heap.size+1+1<w2.heap.size:=by have:=hb2.size;omega
    go_wp2_with fail
    refine (monOkI _ _ _ _ _).mono ?_
    rw [hs]
    rintro r w3 ⟨rfl,hb3⟩
    obtain ⟨hc3,hf3⟩:=bcell (bel_next ((Below.refl w2.heap.size w2).alloc (Nat.le_refl _) _) hb3)
    have ht:∀ i,w3.cell? ⟨w2.heap.size,i,none⟩=#[Value.int .i64 (x+x'),.int .i64 (y+y'),.int .i64 (d+d'),.int .i64 (e+e')][i]?:=fun i=>by
     rw [hb3.cell (p:=⟨w2.heap.size,i,none⟩) (by simp),World.cell?_alloc_at _ _ _ _ rfl]
    have hB:=bel_next ((bel_next (bel_next (bel_three w _ _ _) hb1) hb2).alloc (bel_next (bel_next (bel_three w _ _ _) hb1) hb2).size _) hb3
    go_wp2
    refine bodyPost_ret (v:=.tuple #[.agg #[.int .i64 (x+x'),.int .i64 (y+y'),.int .i64 (d+d'),.int .i64 (e+e')],.bool true]) (by simp [results,Tryz.results181,go_sem, *]) rfl ⟨rfl,?_⟩
    exact bel_set4 hB (by omega) _ _ _ _
set_option maxHeartbeats 2000000 in
theorem monDividesI (x y d e x' y' d' e':Int) (w:World) :
  Calls Tryz.prog 24 #[.agg #[.int .i64 x,.int .i64 y,.int .i64 d,.int .i64 e],.agg #[.int .i64 x',.int .i64 y',.int .i64 d',.int .i64 e']] w fun r w'=>r=.returned (.bool (M.dvd ⟨x,y,d,e⟩ ⟨x',y',d',e'⟩))∧Below w.heap.size w w':=by
 cases ha:M.ok ⟨x,y,d,e⟩
 ·have r1:M.dvd ⟨x,y,d,e⟩ ⟨x',y',d',e'⟩=false:=by simp [M.dvd,ha]
  rw [r1]
  clear r1
  go_enter Tryz.func24,Tryz.ntmps24
  go_wp2_with fail
  refine (monOkI_of ha _).mono ?_
  rintro r w1 ⟨rfl,hb1⟩
  go_wp2
  go_ret
  exact ⟨rfl,bel_next (bel_two w _ _) hb1⟩
 ·cases hb:M.ok ⟨x',y',d',e'⟩
  ·have r1:M.dvd ⟨x,y,d,e⟩ ⟨x',y',d',e'⟩=false:=by simp [M.dvd,hb]
   rw [r1]
   clear r1
   go_enter Tryz.func24,Tryz.ntmps24
   go_wp2_with fail
   refine (monOkI_of ha _).mono ?_
   rintro r w1 ⟨rfl,hb1⟩
   obtain ⟨hc1,hf1⟩:=bcell hb1
   have hz1:w.heap.size+1<w1.heap.size:=by have:=hb1.size;simp at this;omega
   have hy1:w.heap.size<w1.heap.size:=by omega
   go_wp2_with fail
   refine (monOkI_of hb _).mono ?_
   rintro r w2 ⟨rfl,hb2⟩
   obtain ⟨hc2,hf2⟩:=bcell hb2
   go_wp2
   go_ret
   exact ⟨rfl,bel_next (bel_next (bel_two w _ _) hb1) hb2⟩
  ·skip
   by_cases h0:x≤x'
   ·have t0:decide (x≤x')=true:=decide_eq_true h0
    by_cases h1:y≤y'
    ·have t1:decide (y≤y')=true:=decide_eq_true h1
     by_cases h2:d≤d'
     ·have t2:decide (d≤d')=true:=decide_eq_true h2
      by_cases h3:e≤e'
      ·have t3:decide (e≤e')=true:=decide_eq_true h3
       have r1:M.dvd ⟨x,y,d,e⟩ ⟨x',y',d',e'⟩=true:=by simp [M.dvd,ha,hb,h0,h1,h2,h3]
       rw [r1]
       clear r1
       go_enter Tryz.func24,Tryz.ntmps24
       go_wp2_with fail
       refine (monOkI_of ha _).mono ?_
       rintro r w1 ⟨rfl,hb1⟩
       obtain ⟨hc1,hf1⟩:=bcell hb1
       have hz1:w.heap.size+1<w1.heap.size:=by have:=hb1.size;simp at this;omega
       have hy1:w.heap.size<w1.heap.size:=by omega
       go_wp2_with fail
       refine (monOkI_of hb _).mono ?_
       rintro r w2 ⟨rfl,hb2⟩
       obtain ⟨hc2,hf2⟩:=bcell hb2
       go_wp2
       go_ret
       exact ⟨rfl,bel_next (bel_next (bel_two w _ _) hb1) hb2⟩
      ·have t3:decide (e≤e')=false:=decide_eq_false h3
       have r1:M.dvd ⟨x,y,d,e⟩ ⟨x',y',d',e'⟩=false:=by simp [M.dvd,h3]
       rw [r1]
       clear r1
       go_enter Tryz.func24,Tryz.ntmps24
       go_wp2_with fail
       refine (monOkI_of ha _).mono ?_
       rintro r w1 ⟨rfl,hb1⟩
       obtain ⟨hc1,hf1⟩:=bcell hb1
       have hz1:w.heap.size+1<w1.heap.size:=by have:=hb1.size;simp at this;omega
       have hy1:w.heap.size<w1.heap.size:=by omega
       go_wp2_with fail
       refine (monOkI_of hb _).mono ?_
       rintro r w2 ⟨rfl,hb2⟩
       obtain ⟨hc2,hf2⟩:=bcell hb2
       go_wp2
       go_ret
       exact ⟨rfl,bel_next (bel_next (bel_two w _ _) hb1) hb2⟩
     ·have t2:decide (d≤d')=false:=decide_eq_false h2
      have r1:M.dvd ⟨x,y,d,e⟩ ⟨x',y',d',e'⟩=false:=by simp [M.dvd,h2]
      rw [r1]
      clear r1
      go_enter Tryz.func24,Tryz.ntmps24
      go_wp2_with fail
      refine (monOkI_of ha _).mono ?_
      rintro r w1 ⟨rfl,hb1⟩
      obtain ⟨hc1,hf1⟩:=bcell hb1
      have hz1:w.heap.size+1<w1.heap.size:=by have:=hb1.size;simp at this;omega
      have hy1:w.heap.size<w1.heap.size:=by omega
      go_wp2_with fail
      refine (monOkI_of hb _).mono ?_
      rintro r w2 ⟨rfl,hb2⟩
      obtain ⟨hc2,hf2⟩:=bcell hb2
      go_wp2
      go_ret
      exact ⟨rfl,bel_next (bel_next (bel_two w _ _) hb1) hb2⟩
    ·have t1:decide (y≤y')=false:=decide_eq_false h1
     have r1:M.dvd ⟨x,y,d,e⟩ ⟨x',y',d',e'⟩=false:=by simp [M.dvd,h1]
     rw [r1]
     clear r1
     go_enter Tryz.func24,Tryz.ntmps24
     go_wp2_with fail
     refine (monOkI_of ha _).mono ?_
     rintro r w1 ⟨rfl,hb1⟩
     obtain ⟨hc1,hf1⟩:=bcell hb1
     have hz1:w.heap.size+1<w1.heap.size:=by have:=hb1.size;simp at this;omega
     have hy1:w.heap.size<w1.heap.size:=by omega
     go_wp2_with fail
     refine (monOkI_of hb _).mono ?_
     rintro r w2 ⟨rfl,hb2⟩
     obtain ⟨hc2,hf2⟩:=bcell hb2
     go_wp2
     go_ret
     exact ⟨rfl,bel_next (bel_next (bel_two w _ _) hb1) hb2⟩
   ·have t0:decide (x≤x')=false:=decide_eq_false h0
    have r1:M.dvd ⟨x,y,d,e⟩ ⟨x',y',d',e'⟩=false:=by simp [M.dvd,h0]
    rw [r1]
    clear r1
    go_enter Tryz.func24,Tryz.ntmps24
    go_wp2_with fail
    refine (monOkI_of ha _).mono ?_
    rintro r w1 ⟨rfl,hb1⟩
    obtain ⟨hc1,hf1⟩:=bcell hb1
    have hz1:w.heap.size+1<w1.heap.size:=by have:=hb1.size;simp at this;omega
    have hy1:w.heap.size<w1.heap.size:=by omega
    go_wp2_with fail
    refine (monOkI_of hb _).mono ?_
    rintro r w2 ⟨rfl,hb2⟩
    obtain ⟨hc2,hf2⟩:=bcell hb2
    go_wp2
    go_ret
    exact ⟨rfl,bel_next (bel_next (bel_two w _ _) hb1) hb2⟩
theorem monDividesI_of {x y d e x' y' d' e':Int} {b:Bool} (h:M.dvd ⟨x,y,d,e⟩ ⟨x',y',d',e'⟩=b) (w:World) :
  Calls Tryz.prog 24 #[.agg #[.int .i64 x,.int .i64 y,.int .i64 d,.int .i64 e],.agg #[.int .i64 x',.int .i64 y',.int .i64 d',.int .i64 e']] w fun r w'=>r=.returned (.bool b)∧Below w.heap.size w w':=by
 rw [← h];exact monDividesI _ _ _ _ _ _ _ _ w
set_option maxHeartbeats 2000000 in
theorem monOverI (x y d e x' y' d' e':Int) (w:World) :
  Calls Tryz.prog 166 #[.agg #[.int .i64 x,.int .i64 y,.int .i64 d,.int .i64 e],.agg #[.int .i64 x',.int .i64 y',.int .i64 d',.int .i64 e']] w fun r w'=>r=.returned (.tuple #[.agg #[.int .i64 (M.over ⟨x,y,d,e⟩ ⟨x',y',d',e'⟩).1.x,.int .i64 (M.over ⟨x,y,d,e⟩ ⟨x',y',d',e'⟩).1.y,.int .i64 (M.over ⟨x,y,d,e⟩ ⟨x',y',d',e'⟩).1.d,.int .i64 (M.over ⟨x,y,d,e⟩ ⟨x',y',d',e'⟩).1.e],.bool (M.over ⟨x,y,d,e⟩ ⟨x',y',d',e'⟩).2])∧Below w.heap.size w w':=by
 cases hd:M.dvd ⟨x',y',d',e'⟩ ⟨x,y,d,e⟩
 ·have r1:M.over ⟨x,y,d,e⟩ ⟨x',y',d',e'⟩=(M.zero,false):=by simp [M.over,hd]
  rw [r1]
  simp only [M.zero]
  clear r1
  go_enter Tryz.func166,Tryz.ntmps166
  go_wp2_with fail
  refine (monDividesI_of hd _).mono ?_
  rintro r w1 ⟨rfl,hb1⟩
  obtain ⟨hc1,hf1⟩:=bcell hb1
  have hz1:w.heap.size+1+1<w1.heap.size:=by have:=hb1.size;simp at this;omega
  go_wp2
  refine bodyPost_ret (v:=.tuple #[.agg #[.int .i64 0,.int .i64 0,.int .i64 0,.int .i64 0],.bool false]) (by simp [results,Tryz.results166,go_sem, *]) rfl ⟨rfl,?_⟩
  exact bel_set4 (bel_next (bel_three w _ _ _) hb1) (by omega) _ _ _ _
 ·obtain ⟨o1,o2,l1,l2,l3,l4⟩:=M.dvd_iff hd
  obtain ⟨x1,x2,y1,y2,d1,d2,e1,e2⟩:=M.ok_iff.1 o1
  obtain ⟨x3,x4,y3,y4,d3,d4,e3,e4⟩:=M.ok_iff.1 o2
  simp only at x1 x2 y1 y2 d1 d2 e1 e2 x3 x4 y3 y4 d3 d4 e3 e4 l1 l2 l3 l4
  have r1:M.over ⟨x,y,d,e⟩ ⟨x',y',d',e'⟩=(⟨x - x',y - y',d - d',e - e'⟩,true):=by simp [M.over,hd,M.diff]
  rw [r1]
  clear r1 o1 o2
  go_enter Tryz.func166,Tryz.ntmps166
  go_wp2_with fail
  refine (monDividesI_of hd _).mono ?_
  rintro r w1 ⟨rfl,hb1⟩
  obtain ⟨hc1,hf1⟩:=bcell hb1
  have hz1:w.heap.size+1+1<w1.heap.size:=by have:=hb1.size;simp at this;omega
  go_wp2
  refine bodyPost_ret (v:=.tuple #[.agg #[.int .i64 (x - x'),.int .i64 (y - y'),.int .i64 (d - d'),.int .i64 (e - e')],.bool true]) (by simp [results,Tryz.results166,go_sem, *]) rfl ⟨rfl,?_⟩
  exact bel_set4 (bel_next (bel_three w _ _ _) hb1) (by omega) _ _ _ _
set_option maxHeartbeats 1000000 in
theorem monCmpI1 (x y d e x' y' d' e':Int) (w:World) (ha:M.ok ⟨x,y,d,e⟩=true) (hb:M.ok ⟨x',y',d',e'⟩=true) :
  Calls Tryz.prog 36 #[.int .i64 1,.agg #[.int .i64 x,.int .i64 y,.int .i64 d,.int .i64 e],.agg #[.int .i64 x',.int .i64 y',.int .i64 d',.int .i64 e']] w fun r w'=>r=.returned (.int .i64 (M.ord 1 ⟨x,y,d,e⟩ ⟨x',y',d',e'⟩))∧Below w.heap.size w w':=by
 rw [← rk_deg ha hb]
 have HA:=Hid.mk' ha
 have HB:=Hid.mk' hb
 clear ha hb
 go_enter Tryz.func36,Tryz.ntmps36
 go_wp2_with fail
 refine (ordRankI1 _).mono ?_
 rintro r w1 ⟨rfl,hb1⟩
 obtain ⟨hc1,hf1⟩:=bcell hb1
 have hz1:w.heap.size+1<w1.heap.size:=by have:=hb1.size;simp at this;omega
 have hy1:w.heap.size<w1.heap.size:=by omega
 have B1:=Hid.mk' (bel_next (bel_two w _ _) hb1)
 clear hb1
 go_wp2_with fail
 refine (monOkI_of HA.out _).mono ?_
 rintro r w2 ⟨rfl,hb2⟩
 obtain ⟨hc2,hf2⟩:=bcell hb2
 have hz2:w.heap.size+1<w2.heap.size:=by have:=hb2.size;omega
 have hy2:w.heap.size<w2.heap.size:=by omega
 have B2:=Hid.mk' (bel_next B1.out hb2)
 clear hb2
 go_wp2_with fail
 refine (monOkI_of HB.out _).mono ?_
 rintro r w3 ⟨rfl,hb3⟩
 obtain ⟨hc3,hf3⟩:=bcell hb3
 have hz3:w.heap.size+1<w3.heap.size:=by have:=hb3.size;omega
 have hy3:w.heap.size<w3.heap.size:=by omega
 have B3:=Hid.mk' (bel_next B2.out hb3)
 have a0:w3.cell? ⟨w.heap.size,0,none⟩=some (.int .i64 x):=by go_simp
 have a1:w3.cell? ⟨w.heap.size,1,none⟩=some (.int .i64 y):=by go_simp
 have a2:w3.cell? ⟨w.heap.size,2,none⟩=some (.int .i64 d):=by go_simp
 have a3:w3.cell? ⟨w.heap.size,3,none⟩=some (.int .i64 e):=by go_simp
 have b0:w3.cell? ⟨w.heap.size+1,0,none⟩=some (.int .i64 x'):=by go_simp
 have b1:w3.cell? ⟨w.heap.size+1,1,none⟩=some (.int .i64 y'):=by go_simp
 have b2:w3.cell? ⟨w.heap.size+1,2,none⟩=some (.int .i64 d'):=by go_simp
 have b3:w3.cell? ⟨w.heap.size+1,3,none⟩=some (.int .i64 e'):=by go_simp
 have ne:=Ext.there w3
 have s0:∀ u:Ext w3,u.1.cell? ⟨w.heap.size,0,none⟩=some (.int .i64 x):=fun u=>(u.cell hy3).trans a0
 have s1:∀ u:Ext w3,u.1.cell? ⟨w.heap.size,1,none⟩=some (.int .i64 y):=fun u=>(u.cell hy3).trans a1
 have s2:∀ u:Ext w3,u.1.cell? ⟨w.heap.size,2,none⟩=some (.int .i64 d):=fun u=>(u.cell hy3).trans a2
 have s3:∀ u:Ext w3,u.1.cell? ⟨w.heap.size,3,none⟩=some (.int .i64 e):=fun u=>(u.cell hy3).trans a3
 have t0:∀ u:Ext w3,u.1.cell? ⟨w.heap.size+1,0,none⟩=some (.int .i64 x'):=fun u=>(u.cell hz3).trans b0
 have t1:∀ u:Ext w3,u.1.cell? ⟨w.heap.size+1,1,none⟩=some (.int .i64 y'):=fun u=>(u.cell hz3).trans b1
 have t2:∀ u:Ext w3,u.1.cell? ⟨w.heap.size+1,2,none⟩=some (.int .i64 d'):=fun u=>(u.cell hz3).trans b2
 have t3:∀ u:Ext w3,u.1.cell? ⟨w.heap.size+1,3,none⟩=some (.int .i64 e'):=fun u=>(u.cell hz3).trans b3
 clear hb3 hc1 hf1 hc2 hf2 hc3 hf3 a0 a1 a2 a3 b0 b1 b2 b3
 go_wp2_with fail
 refine wp_region_ext (by kernel_rfl) (by kernel_rfl) ?_
 repeat (go_big_quiet_step (first | (go_at_call 76;exact ext_same (compareI _ _ _)) | (go_at_call_of 103 (Value.int IntKind.i64 x);exact ext_grows (rankDegI _ _ _ _ _ HA.out)) | (go_at_call 103;exact ext_grows (rankDegI _ _ _ _ _ HB.out))))
 refine wpQuiet_nil ?_
 rintro _ ⟨u,rfl⟩
 go_wp2
 go_ret
 exact ⟨rfl,B3.out.trans (u.2.mono B3.out.size)⟩
set_option maxHeartbeats 1000000 in
theorem monCmpI2 (x y d e x' y' d' e':Int) (w:World) (ha:M.ok ⟨x,y,d,e⟩=true) (hb:M.ok ⟨x',y',d',e'⟩=true) :
  Calls Tryz.prog 36 #[.int .i64 2,.agg #[.int .i64 x,.int .i64 y,.int .i64 d,.int .i64 e],.agg #[.int .i64 x',.int .i64 y',.int .i64 d',.int .i64 e']] w fun r w'=>r=.returned (.int .i64 (M.ord 2 ⟨x,y,d,e⟩ ⟨x',y',d',e'⟩))∧Below w.heap.size w w':=by
 rw [← rk_two ha hb]
 have HA:=Hid.mk' ha
 have HB:=Hid.mk' hb
 clear ha hb
 go_enter Tryz.func36,Tryz.ntmps36
 go_wp2_with fail
 refine (ordRankI2 _).mono ?_
 rintro r w1 ⟨rfl,hb1⟩
 obtain ⟨hc1,hf1⟩:=bcell hb1
 have hz1:w.heap.size+1<w1.heap.size:=by have:=hb1.size;simp at this;omega
 have hy1:w.heap.size<w1.heap.size:=by omega
 have B1:=Hid.mk' (bel_next (bel_two w _ _) hb1)
 clear hb1
 go_wp2_with fail
 refine (monOkI_of HA.out _).mono ?_
 rintro r w2 ⟨rfl,hb2⟩
 obtain ⟨hc2,hf2⟩:=bcell hb2
 have hz2:w.heap.size+1<w2.heap.size:=by have:=hb2.size;omega
 have hy2:w.heap.size<w2.heap.size:=by omega
 have B2:=Hid.mk' (bel_next B1.out hb2)
 clear hb2
 go_wp2_with fail
 refine (monOkI_of HB.out _).mono ?_
 rintro r w3 ⟨rfl,hb3⟩
 obtain ⟨hc3,hf3⟩:=bcell hb3
 have hz3:w.heap.size+1<w3.heap.size:=by have:=hb3.size;omega
 have hy3:w.heap.size<w3.heap.size:=by omega
 have B3:=Hid.mk' (bel_next B2.out hb3)
 have a0:w3.cell? ⟨w.heap.size,0,none⟩=some (.int .i64 x):=by go_simp
 have a1:w3.cell? ⟨w.heap.size,1,none⟩=some (.int .i64 y):=by go_simp
 have a2:w3.cell? ⟨w.heap.size,2,none⟩=some (.int .i64 d):=by go_simp
 have a3:w3.cell? ⟨w.heap.size,3,none⟩=some (.int .i64 e):=by go_simp
 have b0:w3.cell? ⟨w.heap.size+1,0,none⟩=some (.int .i64 x'):=by go_simp
 have b1:w3.cell? ⟨w.heap.size+1,1,none⟩=some (.int .i64 y'):=by go_simp
 have b2:w3.cell? ⟨w.heap.size+1,2,none⟩=some (.int .i64 d'):=by go_simp
 have b3:w3.cell? ⟨w.heap.size+1,3,none⟩=some (.int .i64 e'):=by go_simp
 have ne:=Ext.there w3
 have s0:∀ u:Ext w3,u.1.cell? ⟨w.heap.size,0,none⟩=some (.int .i64 x):=fun u=>(u.cell hy3).trans a0
 have s1:∀ u:Ext w3,u.1.cell? ⟨w.heap.size,1,none⟩=some (.int .i64 y):=fun u=>(u.cell hy3).trans a1
 have s2:∀ u:Ext w3,u.1.cell? ⟨w.heap.size,2,none⟩=some (.int .i64 d):=fun u=>(u.cell hy3).trans a2
 have s3:∀ u:Ext w3,u.1.cell? ⟨w.heap.size,3,none⟩=some (.int .i64 e):=fun u=>(u.cell hy3).trans a3
 have t0:∀ u:Ext w3,u.1.cell? ⟨w.heap.size+1,0,none⟩=some (.int .i64 x'):=fun u=>(u.cell hz3).trans b0
 have t1:∀ u:Ext w3,u.1.cell? ⟨w.heap.size+1,1,none⟩=some (.int .i64 y'):=fun u=>(u.cell hz3).trans b1
 have t2:∀ u:Ext w3,u.1.cell? ⟨w.heap.size+1,2,none⟩=some (.int .i64 d'):=fun u=>(u.cell hz3).trans b2
 have t3:∀ u:Ext w3,u.1.cell? ⟨w.heap.size+1,3,none⟩=some (.int .i64 e'):=fun u=>(u.cell hz3).trans b3
 clear hb3 hc1 hf1 hc2 hf2 hc3 hf3 a0 a1 a2 a3 b0 b1 b2 b3
 go_wp2_with fail
 refine wp_region_ext (by kernel_rfl) (by kernel_rfl) ?_
 repeat (go_big_quiet_step (first | (go_at_call 76;exact ext_same (compareI _ _ _)) | (go_at_call_of 104 (Value.int IntKind.i64 x);exact ext_grows (rankLexI _ _ _ _ _ HA.out)) | (go_at_call 104;exact ext_grows (rankLexI _ _ _ _ _ HB.out))))
 refine wpQuiet_nil ?_
 rintro _ ⟨u,rfl⟩
 go_wp2
 go_ret
 exact ⟨rfl,B3.out.trans (u.2.mono B3.out.size)⟩
set_option maxHeartbeats 1000000 in
theorem monCmpI3 (x y d e x' y' d' e':Int) (w:World) (ha:M.ok ⟨x,y,d,e⟩=true) (hb:M.ok ⟨x',y',d',e'⟩=true) :
  Calls Tryz.prog 36 #[.int .i64 3,.agg #[.int .i64 x,.int .i64 y,.int .i64 d,.int .i64 e],.agg #[.int .i64 x',.int .i64 y',.int .i64 d',.int .i64 e']] w fun r w'=>r=.returned (.int .i64 (M.ord 3 ⟨x,y,d,e⟩ ⟨x',y',d',e'⟩))∧Below w.heap.size w w':=by
 rw [← rk_out ha hb]
 have HA:=Hid.mk' ha
 have HB:=Hid.mk' hb
 clear ha hb
 go_enter Tryz.func36,Tryz.ntmps36
 go_wp2_with fail
 refine (ordRankI3 _).mono ?_
 rintro r w1 ⟨rfl,hb1⟩
 obtain ⟨hc1,hf1⟩:=bcell hb1
 have hz1:w.heap.size+1<w1.heap.size:=by have:=hb1.size;simp at this;omega
 have hy1:w.heap.size<w1.heap.size:=by omega
 have B1:=Hid.mk' (bel_next (bel_two w _ _) hb1)
 clear hb1
 go_wp2_with fail
 refine (monOkI_of HA.out _).mono ?_
 rintro r w2 ⟨rfl,hb2⟩
 obtain ⟨hc2,hf2⟩:=bcell hb2
 have hz2:w.heap.size+1<w2.heap.size:=by have:=hb2.size;omega
 have hy2:w.heap.size<w2.heap.size:=by omega
 have B2:=Hid.mk' (bel_next B1.out hb2)
 clear hb2
 go_wp2_with fail
 refine (monOkI_of HB.out _).mono ?_
 rintro r w3 ⟨rfl,hb3⟩
 obtain ⟨hc3,hf3⟩:=bcell hb3
 have hz3:w.heap.size+1<w3.heap.size:=by have:=hb3.size;omega
 have hy3:w.heap.size<w3.heap.size:=by omega
 have B3:=Hid.mk' (bel_next B2.out hb3)
 have a0:w3.cell? ⟨w.heap.size,0,none⟩=some (.int .i64 x):=by go_simp
 have a1:w3.cell? ⟨w.heap.size,1,none⟩=some (.int .i64 y):=by go_simp
 have a2:w3.cell? ⟨w.heap.size,2,none⟩=some (.int .i64 d):=by go_simp
 have a3:w3.cell? ⟨w.heap.size,3,none⟩=some (.int .i64 e):=by go_simp
 have b0:w3.cell? ⟨w.heap.size+1,0,none⟩=some (.int .i64 x'):=by go_simp
 have b1:w3.cell? ⟨w.heap.size+1,1,none⟩=some (.int .i64 y'):=by go_simp
 have b2:w3.cell? ⟨w.heap.size+1,2,none⟩=some (.int .i64 d'):=by go_simp
 have b3:w3.cell? ⟨w.heap.size+1,3,none⟩=some (.int .i64 e'):=by go_simp
 have ne:=Ext.there w3
 have s0:∀ u:Ext w3,u.1.cell? ⟨w.heap.size,0,none⟩=some (.int .i64 x):=fun u=>(u.cell hy3).trans a0
 have s1:∀ u:Ext w3,u.1.cell? ⟨w.heap.size,1,none⟩=some (.int .i64 y):=fun u=>(u.cell hy3).trans a1
 have s2:∀ u:Ext w3,u.1.cell? ⟨w.heap.size,2,none⟩=some (.int .i64 d):=fun u=>(u.cell hy3).trans a2
 have s3:∀ u:Ext w3,u.1.cell? ⟨w.heap.size,3,none⟩=some (.int .i64 e):=fun u=>(u.cell hy3).trans a3
 have t0:∀ u:Ext w3,u.1.cell? ⟨w.heap.size+1,0,none⟩=some (.int .i64 x'):=fun u=>(u.cell hz3).trans b0
 have t1:∀ u:Ext w3,u.1.cell? ⟨w.heap.size+1,1,none⟩=some (.int .i64 y'):=fun u=>(u.cell hz3).trans b1
 have t2:∀ u:Ext w3,u.1.cell? ⟨w.heap.size+1,2,none⟩=some (.int .i64 d'):=fun u=>(u.cell hz3).trans b2
 have t3:∀ u:Ext w3,u.1.cell? ⟨w.heap.size+1,3,none⟩=some (.int .i64 e'):=fun u=>(u.cell hz3).trans b3
 clear hb3 hc1 hf1 hc2 hf2 hc3 hf3 a0 a1 a2 a3 b0 b1 b2 b3
 go_wp2_with fail
 refine wp_region_ext (by kernel_rfl) (by kernel_rfl) ?_
 repeat (go_big_quiet_step (first | (go_at_call 76;exact ext_same (compareI _ _ _)) | (go_at_call_of 105 (Value.int IntKind.i64 x);exact ext_grows (rankOutI _ _ _ _ _ HA.out)) | (go_at_call 105;exact ext_grows (rankOutI _ _ _ _ _ HB.out))))
 refine wpQuiet_nil ?_
 rintro _ ⟨u,rfl⟩
 go_wp2
 go_ret
 exact ⟨rfl,B3.out.trans (u.2.mono B3.out.size)⟩
set_option maxHeartbeats 1000000 in
theorem monCmpI (o x y d e x' y' d' e':Int) (w:World) :
  Calls Tryz.prog 36 #[.int .i64 o,.agg #[.int .i64 x,.int .i64 y,.int .i64 d,.int .i64 e],.agg #[.int .i64 x',.int .i64 y',.int .i64 d',.int .i64 e']] w fun r w'=>r=.returned (.int .i64 (M.cmp o ⟨x,y,d,e⟩ ⟨x',y',d',e'⟩))∧Below w.heap.size w w':=by
 by_cases ho:1≤o∧o≤3
 ·have ho3:o=1∨o=2∨o=3:=by omega
  cases ha:M.ok ⟨x,y,d,e⟩
  ·have r1:M.cmp o ⟨x,y,d,e⟩ ⟨x',y',d',e'⟩=0:=by simp [M.cmp,ha]
   rw [r1]
   obtain ⟨o1,o2⟩:=ho
   clear r1 ho3
   go_enter Tryz.func36,Tryz.ntmps36
   go_wp2_with fail
   refine (ordRankI_in _ _ o1 o2).mono ?_
   rintro r w1 ⟨fv,rfl,hb1⟩
   obtain ⟨hc1,hf1⟩:=bcell hb1
   have hz1:w.heap.size+1<w1.heap.size:=by have:=hb1.size;simp at this;omega
   have hy1:w.heap.size<w1.heap.size:=by omega
   have B1:=Hid.mk' (bel_next (bel_two w _ _) hb1)
   clear hb1
   go_wp2_with fail
   refine (monOkI_of ha _).mono ?_
   rintro r w2 ⟨rfl,hb2⟩
   have B2:=Hid.mk' (bel_next B1.out hb2)
   clear hb2
   go_wp2
   go_ret
   exact ⟨rfl,B2.out⟩
  ·cases hb:M.ok ⟨x',y',d',e'⟩
   ·have r1:M.cmp o ⟨x,y,d,e⟩ ⟨x',y',d',e'⟩=0:=by simp [M.cmp,hb]
    rw [r1]
    obtain ⟨o1,o2⟩:=ho
    clear r1 ho3
    go_enter Tryz.func36,Tryz.ntmps36
    go_wp2_with fail
    refine (ordRankI_in _ _ o1 o2).mono ?_
    rintro r w1 ⟨fv,rfl,hb1⟩
    obtain ⟨hc1,hf1⟩:=bcell hb1
    have hz1:w.heap.size+1<w1.heap.size:=by have:=hb1.size;simp at this;omega
    have hy1:w.heap.size<w1.heap.size:=by omega
    have B1:=Hid.mk' (bel_next (bel_two w _ _) hb1)
    clear hb1
    go_wp2_with fail
    refine (monOkI_of ha _).mono ?_
    rintro r w2 ⟨rfl,hb2⟩
    obtain ⟨hc2,hf2⟩:=bcell hb2
    have B2:=Hid.mk' (bel_next B1.out hb2)
    clear hb2
    go_wp2_with fail
    refine (monOkI_of hb _).mono ?_
    rintro r w3 ⟨rfl,hb3⟩
    have B3:=Hid.mk' (bel_next B2.out hb3)
    clear hb3
    go_wp2
    go_ret
    exact ⟨rfl,B3.out⟩
   ·have r1:M.cmp o ⟨x,y,d,e⟩ ⟨x',y',d',e'⟩=M.ord o ⟨x,y,d,e⟩ ⟨x',y',d',e'⟩:=by simp [M.cmp,ha,hb,ho.1,ho.2]
    rw [r1]
    rcases ho3 with rfl | rfl | rfl
    ·exact monCmpI1 _ _ _ _ _ _ _ _ w ha hb
    ·exact monCmpI2 _ _ _ _ _ _ _ _ w ha hb
    ·exact monCmpI3 _ _ _ _ _ _ _ _ w ha hb
 ·have r1:M.cmp o ⟨x,y,d,e⟩ ⟨x',y',d',e'⟩=0:=by simp [M.cmp,ho]
  rw [r1]
  have ho':o<1∨3<o:=by omega
  clear ho r1
  go_enter Tryz.func36,Tryz.ntmps36
  go_wp2_with fail
  refine (ordRankI_out _ _ ho').mono ?_
  rintro r w1 ⟨rfl,hb1⟩
  have B1:=Hid.mk' (bel_next (bel_two w _ _) hb1)
  clear hb1
  go_wp2
  go_ret
  exact ⟨rfl,B1.out⟩
end Go.Proofs.YtdidlcjhodejjaaGreat
namespace Go.Proofs.YtdidlcjhodejjaaGreat
open Go.RowKit
set_option linter.unusedVariables false
structure T where
 c:Int
 m:M
def okAt (f:Nat→T) (i:Nat):Bool:=decide (1≤(f i).c∧(f i).c≤100) && (f i).m.ok && (decide (i=0) || decide (0<M.ord 1 (f (i - 1)).m (f i).m))
def polOk (n:Nat) (f:Nat→T):Bool:=decide (n≤400∧∀ i,i<n→okAt f i=true)
def Cells (w:World) (b o:Nat) (t:T):Prop:=
 w.cell? ⟨b,o,none⟩=some (.int .i64 t.c)∧w.cell? ⟨b,o+1,none⟩=some (.int .i64 t.m.x)∧w.cell? ⟨b,o+2,none⟩=some (.int .i64 t.m.y)∧w.cell? ⟨b,o+3,none⟩=some (.int .i64 t.m.d)∧w.cell? ⟨b,o+4,none⟩=some (.int .i64 t.m.e)
def Rd (w:World) (a:Option Addr) (n cap:Nat) (f:Nat→T):Prop:=
 n≤cap∧n * 40≤140737488351232∧(n=0∨∃ b off,a=some ⟨b,off,none⟩∧b<w.heap.size∧∀ i,i<n→Cells w b (off+i * 5) (f i))
theorem Cells.below {w w':World} {b o:Nat} {t:T} {B:Nat} (h:Cells w b o t) (hb:Below B w w') (hB:b<B):Cells w' b o t:=by
 obtain ⟨h0,h1,h2,h3,h4⟩:=h
 exact ⟨(hb.cell (p:=⟨b,o,none⟩) hB).trans h0,(hb.cell (p:=⟨b,o+1,none⟩) hB).trans h1,(hb.cell (p:=⟨b,o+2,none⟩) hB).trans h2,(hb.cell (p:=⟨b,o+3,none⟩) hB).trans h3,(hb.cell (p:=⟨b,o+4,none⟩) hB).trans h4⟩
theorem Rd.below {w w':World} {a:Option Addr} {n cap:Nat} {f:Nat→T} (h:Rd w a n cap f) (hb:Below w.heap.size w w'):Rd w' a n cap f:=by
 obtain ⟨h1,h2,h3⟩:=h
 refine ⟨h1,h2,?_⟩
 rcases h3 with h0 | ⟨b,off,rfl,hlt,hc⟩
 ·exact .inl h0
 ·exact .inr ⟨b,off,rfl,Nat.lt_of_lt_of_le hlt hb.size,fun i hi=>(hc i hi).below hb hlt⟩
set_option maxHeartbeats 4000000 in
theorem polOkS (w:World) (a:Option Addr) (n cap:Nat) (f:Nat→T) (h:Rd w a n cap f) :
  Calls Tryz.prog 65 #[.slice a n cap] w fun r w'=>r=.returned (.bool (polOk n f))∧Below w.heap.size w w':=by
 obtain ⟨h1,h2,h3⟩:=h
 have hn:(n:Int)≤140737488351232:=by omega
 by_cases hl:n≤400
 ·have hl':(n:Int)≤400:=by omega
  go_enter Tryz.func65,Tryz.ntmps65
  go_wp2
  go_loopw [3] (fun i wr=>∃ k:Nat,k≤n∧i=.int .i64 k∧Below w.heap.size w wr∧∀ j,j<k→okAt f j=true) (fun i _=>n - (intOf i).toNat)
  case atStart=>exact ⟨0,Nat.zero_le _,rfl,Below.refl _ _,fun j hj=>absurd hj (Nat.not_lt_zero _)⟩
  case round=>
   obtain ⟨k,hk,rfl,hB,hok⟩:=hrel
   by_cases hlt:k<n
   ·rcases h3 with h0 | ⟨b,off,rfl,hblt,hcl⟩
    ·omega
    have hkn:(k:Int)<(n:Int):=by omega
    have hbr:b<wr.heap.size:=Nat.lt_of_lt_of_le hblt hB.size
    have ne:=Ext.there wr
    have hck:=(hcl k hlt).below hB hblt
    have s0:∀ u:Ext wr,u.1.cell? ⟨b,off+k * 5,none⟩=some (.int .i64 (f k).c):=fun u=>(u.cell hbr).trans hck.1
    have s1:∀ u:Ext wr,u.1.cell? ⟨b,off+k * 5+1,none⟩=some (.int .i64 (f k).m.x):=fun u=>(u.cell hbr).trans hck.2.1
    have s2:∀ u:Ext wr,u.1.cell? ⟨b,off+k * 5+2,none⟩=some (.int .i64 (f k).m.y):=fun u=>(u.cell hbr).trans hck.2.2.1
    have s3:∀ u:Ext wr,u.1.cell? ⟨b,off+k * 5+3,none⟩=some (.int .i64 (f k).m.d):=fun u=>(u.cell hbr).trans hck.2.2.2.1
    have s4:∀ u:Ext wr,u.1.cell? ⟨b,off+k * 5+4,none⟩=some (.int .i64 (f k).m.e):=fun u=>(u.cell hbr).trans hck.2.2.2.2
    clear hck
    have ho:okAt f k=(decide (1≤(f k).c∧(f k).c≤100) && (f k).m.ok && (decide (k=0) || decide (0<M.ord 1 (f (k - 1)).m (f k).m))):=rfl
    have hno:okAt f k=false→polOk n f=false:=fun hf=>by
     simp only [polOk,decide_eq_false_iff_not]
     intro hh
     have:=hh.2 k hlt
     rw [hf] at this
     cases this
    by_cases hc:1≤(f k).c∧(f k).c≤100
    ·obtain ⟨c1,c2⟩:=hc
     cases hm:(f k).m.ok
     ·have HF:Hid (polOk n f=false):=hno (by rw [ho,hm];simp)
      clear hno ho hcl hok
      go_wp2_with fail
      refine wp_region_ext (by kernel_rfl) (by kernel_rfl) ?_
      repeat (go_big_quiet_step (first | (go_at_call 39;exact ext_same (inS_in _ _ _ _ c1 c2)) | (go_at_call 108;exact ext_grows (monOkS_of hm _))))
      refine wpQuiet_nil ?_
      rintro _ ⟨u,rfl⟩
      go_wp2
      go_ret
      exact ⟨by rw [HF.out];rfl,hB.trans (u.2.mono hB.size)⟩
     ·by_cases hk0:k=0
      ·have ht:okAt f k=true:=by rw [ho,hm,decide_eq_true (p:=1≤(f k).c∧(f k).c≤100) ⟨c1,c2⟩,decide_eq_true hk0];rfl
       have hok':Hid (∀ j,j<k+1→okAt f j=true):=fun j hj=>by
        by_cases hjk:j=k
        ·rw [hjk];exact ht
        ·exact hok j (by omega)
       have dk:decide (0<k)=false:=decide_eq_false (by omega)
       clear hno ho hcl hok ht hk0
       go_wp2_with fail
       refine wp_region_ext (by kernel_rfl) (by kernel_rfl) ?_
       repeat (go_big_quiet_step (first | (go_at_call 39;exact ext_same (inS_in _ _ _ _ c1 c2)) | (go_at_call 108;exact ext_grows (monOkS_of hm _))))
       refine wpQuiet_nil ?_
       rintro _ ⟨u,rfl⟩
       go_wp2
       go_roundw
       case rel=>exact ⟨k+1,by omega,by go_num,hB.trans (u.2.mono hB.size),hok'.out⟩
       case measure=>simp [intOf];omega
      ·have hj:k - 1<n:=by omega
       have hcj:=(hcl (k - 1) hj).below hB hblt
       have p1:∀ u:Ext wr,u.1.cell? ⟨b,off+(k - 1) * 5+1,none⟩=some (.int .i64 (f (k - 1)).m.x):=fun u=>(u.cell hbr).trans hcj.2.1
       have p2:∀ u:Ext wr,u.1.cell? ⟨b,off+(k - 1) * 5+2,none⟩=some (.int .i64 (f (k - 1)).m.y):=fun u=>(u.cell hbr).trans hcj.2.2.1
       have p3:∀ u:Ext wr,u.1.cell? ⟨b,off+(k - 1) * 5+3,none⟩=some (.int .i64 (f (k - 1)).m.d):=fun u=>(u.cell hbr).trans hcj.2.2.2.1
       have p4:∀ u:Ext wr,u.1.cell? ⟨b,off+(k - 1) * 5+4,none⟩=some (.int .i64 (f (k - 1)).m.e):=fun u=>(u.cell hbr).trans hcj.2.2.2.2
       clear hcj
       have dk:decide (0<k)=true:=decide_eq_true (by omega)
       have hk1:(0:Int)<(k:Int):=by omega
       have hk2:(k:Int) - 1<(n:Int):=by omega
       have hk3:(0:Int)≤(k:Int) - 1:=by omega
       by_cases hq:0<M.ord 1 (f (k - 1)).m (f k).m
       ·have ht:okAt f k=true:=by rw [ho,hm,decide_eq_true (p:=1≤(f k).c∧(f k).c≤100) ⟨c1,c2⟩,decide_eq_true hq];simp
        have hok':Hid (∀ j,j<k+1→okAt f j=true):=fun j hj=>by
         by_cases hjk:j=k
         ·rw [hjk];exact ht
         ·exact hok j (by omega)
        have dq:decide (M.ord 1 ⟨(f (k - 1)).m.x,(f (k - 1)).m.y,(f (k - 1)).m.d,(f (k - 1)).m.e⟩ ⟨(f k).m.x,(f k).m.y,(f k).m.d,(f k).m.e⟩≤0)=false:=decide_eq_false (Int.not_le.2 hq)
        clear hno ho hcl hok ht hk0 hq
        go_wp2_with fail
        refine wp_region_ext (by kernel_rfl) (by kernel_rfl) ?_
        repeat (go_big_quiet_step (first | (go_at_call 39;exact ext_same (inS_in _ _ _ _ c1 c2)) | (go_at_call 108;exact ext_grows (monOkS_of hm _)) | (go_at_call 82;exact ext_grows (ordS1 _ _ _ _ _ _ _ _ _))))
        refine wpQuiet_nil ?_
        rintro _ ⟨u,rfl⟩
        go_wp2
        go_roundw
        case rel=>exact ⟨k+1,by omega,by go_num,hB.trans (u.2.mono hB.size),hok'.out⟩
        case measure=>simp [intOf];omega
       ·have HF:Hid (polOk n f=false):=hno (by rw [ho,hm];simp [hk0,hq])
        have dq:decide (M.ord 1 ⟨(f (k - 1)).m.x,(f (k - 1)).m.y,(f (k - 1)).m.d,(f (k - 1)).m.e⟩ ⟨(f k).m.x,(f k).m.y,(f k).m.d,(f k).m.e⟩≤0)=true:=decide_eq_true (Int.not_lt.1 hq)
        clear hno ho hcl hok hk0 hq
        go_wp2_with fail
        refine wp_region_ext (by kernel_rfl) (by kernel_rfl) ?_
        repeat (go_big_quiet_step (first | (go_at_call 39;exact ext_same (inS_in _ _ _ _ c1 c2)) | (go_at_call 108;exact ext_grows (monOkS_of hm _)) | (go_at_call 82;exact ext_grows (ordS1 _ _ _ _ _ _ _ _ _))))
        refine wpQuiet_nil ?_
        rintro _ ⟨u,rfl⟩
        go_wp2
        go_ret
        exact ⟨by rw [HF.out];rfl,hB.trans (u.2.mono hB.size)⟩
    ·have HF:Hid (polOk n f=false):=hno (by rw [ho];simp [hc])
     have hc':(f k).c<1∨(1≤(f k).c∧100<(f k).c):=by omega
     clear hc hno ho hcl hok
     go_wp2_with fail
     refine wp_region_ext (by kernel_rfl) (by kernel_rfl) ?_
     repeat (go_big_quiet_step ((go_at_call 39;exact ext_same (inS_out _ _ _ _ hc'))))
     refine wpQuiet_nil ?_
     rintro _ ⟨u,rfl⟩
     go_wp2
     go_ret
     exact ⟨by rw [HF.out];rfl,hB.trans (u.2.mono hB.size)⟩
   ·go_wp2
    go_ret
    have hp:polOk n f=true:=by
     simp only [polOk,decide_eq_true_eq]
     exact ⟨hl,fun i hi=>hok i (by omega)⟩
    exact ⟨by rw [hp];rfl,hB⟩
 ·have hl':(400:Int)<(n:Int):=by omega
  have hp:polOk n f=false:=by
   simp only [polOk,decide_eq_false_iff_not]
   exact fun h=>hl h.1
  rw [hp]
  go_enter Tryz.func65,Tryz.ntmps65
  go_wp2
  go_ret
  exact ⟨rfl,Below.refl _ _⟩
end Go.Proofs.YtdidlcjhodejjaaGreat
