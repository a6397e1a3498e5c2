/-
  A region that draws its order, by an invariant: what holds of the frame and the world whatever has been done so far.
-/
import Derived.Test.YtdidlcjhodejjaaGreatRows
import Derived.WalkKit
import Derived.Orders
import Derived.Test.YtdidlcjhodejjaaGreatUag
import Derived.Test.YtdidlcjhodejjaaGreatUaa
import Derived.Test.YtdidlcjhodejjaaGreatUac
import Derived.Test.YtdidlcjhodejjaaGreatUaf
namespace Go.Proofs.YtdidlcjhodejjaaGreat
open Go.RowKit
def undone (l:Array Bool):Nat:=(l.toList.filter (fun b=>b == false)).length
theorem undone_list:∀ (l:List Bool) (i:Nat),l[i]?=some false→((l.set i true).filter (fun b=>b == false)).length+1=(l.filter (fun b=>b == false)).length
 | [],i,h=>by simp at h
 | b :: r,0,h=>by
  simp at h
  subst h
  simp
 | b :: r,i+1,h=>by
  have ih:=undone_list r i (by simpa using h)
  cases b <;> simp at ih ⊢ <;> omega
theorem undone_set {l:Array Bool} {i:Nat} (h:l[i]?=some false):undone (l.setIfInBounds i true)+1=undone l:=by
 unfold undone
 rw [Array.toList_setIfInBounds]
 exact undone_list _ _ (by simpa using h)
theorem undone_none_list:∀ (l:List Bool),(l.filter (fun b=>b == false)).length=0→∀ i:Nat,l[i]?≠some false
 | [],_,i,h=>by simp at h
 | b :: r,hl,0,h=>by
  simp at h
  subst h
  simp at hl
 | b :: r,hl,i+1,h=>by
  refine undone_none_list r ?_ i (by simpa using h)
  cases b <;> simp at hl ⊢
  exact hl
theorem getD_false {l:Array Bool} {i:Nat} (h:l.getD i true=false):l[i]?=some false:=by
 rw [Array.getD_eq_getD_getElem?] at h
 cases hx:l[i]? with
 | none=>rw [hx] at h;simp at h
 | some b=>rw [hx] at h;simp at h;rw [h]
theorem wpAny_inv {P:Program} {md:Region.Mode} {ops:Array Oper} {Q:Exit→Act→World→Prop} {I:Array Bool→Act→World→Prop}
  (hs:∀ l a w,I l a w→∀ i∈Region.ready md ops l,wpOp P ops Q i (I (l.setIfInBounds i true)) a w)
  (he:∀ l a w,I l a w→Region.ready md ops l=[]→Q .normal a w) :
  ∀ (fuel:Nat) (l:Array Bool) (a:Act) (w:World),undone l≤fuel→I l a w→wpAny P md ops Q fuel l a w
 | 0,l,a,w,hf,hI=>by
  have hr:Region.ready md ops l=[]:=by
   rw [List.eq_nil_iff_forall_not_mem]
   intro i hi
   have h0:=getD_false (mem_ready.1 hi).1
   exact undone_none_list l.toList (by unfold undone at hf;omega) i (by simpa using h0)
  exact ⟨hr,he l a w hI hr⟩
 | fuel+1,l,a,w,hf,hI=>by
  refine ⟨fun hr=>he l a w hI hr,fun i hi=>?_⟩
  have h0:=getD_false (mem_ready.1 hi).1
  have h1:=undone_set h0
  exact wpOp_mono (fun a' w' h=>wpAny_inv hs he fuel _ a' w' (by omega) h) (hs l a w hI i hi)
theorem undone_replicate (n:Nat):undone (Array.replicate n false)=n:=by
 unfold undone;simp
end Go.Proofs.YtdidlcjhodejjaaGreat
namespace Go.Proofs.YtdidlcjhodejjaaGreat
open Go.RowKit
set_option linter.unusedVariables false
def Sl (w:World) (N m:Nat) (v:Value):Prop:=∃ b,v=.slice (some ⟨b,0,none⟩) m m∧N≤b∧∀ i,i<m→∃ x,w.cell? ⟨b,i,none⟩=some (.int .i64 x)
def Ag (v:Value):Prop:=∃ x y d e,v=.agg #[.int .i64 x,.int .i64 y,.int .i64 d,.int .i64 e]
def Al (w:World) (N:Nat) (v:Value):Prop:=∃ g,v=.pointer (some ⟨g,0,none⟩)∧N≤g∧g<w.heap.size∧(∀ i,i<4→∃ x,w.cell? ⟨g,i,none⟩=some (.int .i64 x))∧∀ i,w.frozen? ⟨g,i,none⟩=false
end Go.Proofs.YtdidlcjhodejjaaGreat
namespace Go.Proofs.YtdidlcjhodejjaaGreat
open Go.RowKit
set_option linter.unusedVariables false
end Go.Proofs.YtdidlcjhodejjaaGreat
namespace Go.Proofs.YtdidlcjhodejjaaGreat
open Go.RowKit
set_option linter.unusedVariables false
theorem monOverI_of {x y d e x' y' d' e':Int} {m:M} {b:Bool} (h:M.over ⟨x,y,d,e⟩ ⟨x',y',d',e'⟩=(m,b)) (w:World) :
  Calls Tryz.prog 166 #[.agg #[.int .i64 x,.int .i64 y,.int .i64 d,.int .i64 e],.agg #[.int .i64 x',.int .i64 y',.int .i64 d',.int .i64 e']] w fun r w'=>r=.returned (.tuple #[.agg #[.int .i64 m.x,.int .i64 m.y,.int .i64 m.d,.int .i64 m.e],.bool b])∧Below w.heap.size w w':=by
 have:=monOverI x y d e x' y' d' e' w
 rw [h] at this;exact this
theorem monOverS_of {x y d e x' y' d' e':Int} {m:M} {b:Bool} (h:M.over ⟨x,y,d,e⟩ ⟨x',y',d',e'⟩=(m,b)) (w:World) :
  Calls Tryz.prog 129 #[.agg #[.int .i64 x,.int .i64 y,.int .i64 d,.int .i64 e],.agg #[.int .i64 x',.int .i64 y',.int .i64 d',.int .i64 e']] w fun r w'=>r=.returned (.tuple #[.agg #[.int .i64 m.x,.int .i64 m.y,.int .i64 m.d,.int .i64 m.e],.bool b])∧Below w.heap.size w w':=by
 have:=monOverS x y d e x' y' d' e' w
 rw [h] at this;exact this
theorem monBothI_of {x y d e x' y' d' e':Int} {m:M} (h:M.both ⟨x,y,d,e⟩ ⟨x',y',d',e'⟩=m) (w:World) :
  Calls Tryz.prog 152 #[.agg #[.int .i64 x,.int .i64 y,.int .i64 d,.int .i64 e],.agg #[.int .i64 x',.int .i64 y',.int .i64 d',.int .i64 e']] w fun r w'=>r=.returned (.agg #[.int .i64 m.x,.int .i64 m.y,.int .i64 m.d,.int .i64 m.e])∧Below w.heap.size w w':=by
 have:=monBothI x y d e x' y' d' e' w
 rw [h] at this;exact this
theorem monBothS_of {x y d e x' y' d' e':Int} {m:M} (h:M.both ⟨x,y,d,e⟩ ⟨x',y',d',e'⟩=m) (w:World) :
  Calls Tryz.prog 159 #[.agg #[.int .i64 x,.int .i64 y,.int .i64 d,.int .i64 e],.agg #[.int .i64 x',.int .i64 y',.int .i64 d',.int .i64 e']] w fun r w'=>r=.returned (.agg #[.int .i64 m.x,.int .i64 m.y,.int .i64 m.d,.int .i64 m.e])∧Below w.heap.size w w':=by
 have:=monBothS x y d e x' y' d' e' w
 rw [h] at this;exact this
theorem M.dvd_mk {a b:M} (ha:a.ok=true) (hb:b.ok=true) (h:a.x≤b.x∧a.y≤b.y∧a.d≤b.d∧a.e≤b.e):a.dvd b=true:=by
 simp [M.dvd,ha,hb,h]
theorem mx_bd {a b l h:Int} (ha:l≤a∧a≤h) (hb:l≤b∧b≤h):l≤mx a b∧mx a b≤h∧a≤mx a b∧b≤mx a b:=by unfold mx;split <;> omega
theorem mx_le {a b c:Int} (ha:a≤c) (hb:b≤c):mx a b≤c:=by unfold mx;split <;> omega
theorem M.both_facts {a b p:M} (ha:a.ok=true) (hb:b.ok=true) (hp:M.both a b=p):a.dvd p=true∧b.dvd p=true∧(∀ c:M,a.dvd c=true→b.dvd c=true→p.dvd c=true)∧M.both a a=a:=by
 rw [M.both,if_pos ⟨ha,hb⟩] at hp
 subst hp
 have ka:=M.ok_iff.1 ha
 have kb:=M.ok_iff.1 hb
 have hx:=mx_bd (a:=a.x) (b:=b.x) (l:=0) (h:=15) (by omega) (by omega)
 have hy:=mx_bd (a:=a.y) (b:=b.y) (l:=0) (h:=15) (by omega) (by omega)
 have hd:=mx_bd (a:=a.d) (b:=b.d) (l:=0) (h:=15) (by omega) (by omega)
 have he:=mx_bd (a:=a.e) (b:=b.e) (l:=0) (h:=15) (by omega) (by omega)
 have hok:M.ok ⟨mx a.x b.x,mx a.y b.y,mx a.d b.d,mx a.e b.e⟩=true:=M.ok_iff.2 (by dsimp only;omega)
 refine ⟨M.dvd_mk ha hok (by dsimp only;omega),M.dvd_mk hb hok (by dsimp only;omega),fun c h1 h2=>?_,?_⟩
 ·have k1:=M.dvd_iff h1
  have k2:=M.dvd_iff h2
  exact M.dvd_mk hok k1.2.1 ⟨mx_le k1.2.2.1 k2.2.2.1,mx_le k1.2.2.2.1 k2.2.2.2.1,mx_le k1.2.2.2.2.1 k2.2.2.2.2.1,mx_le k1.2.2.2.2.2 k2.2.2.2.2.2⟩
 ·rw [M.both,if_pos ⟨ha,ha⟩]
  have:∀ z:Int,mx z z=z:=fun z=>by unfold mx;split <;> rfl
  simp only [this]
end Go.Proofs.YtdidlcjhodejjaaGreat
