/-
  An operator is its numbers: two lists of terms that fall, with the same numbers, are one.
  The four cells of a monomial.
  Monomials that come in, are copied and are held against each other.
-/
import Derived.Test.YtncffcaabnjioaaGreatMac
import Derived.ProofKit
import Derived.Deep.OwnRows
import Derived.Lib.SmallJoins
namespace Go.Proofs.YtncffcaabnjioaaGreat
open Go.RowKit
set_option linter.unusedVariables false
def gB (a b:M):Bool:=decide (a.x=b.x∧a.y=b.y∧a.d=b.d∧a.e=b.e)
theorem bT {a b:M}:gB a b=true↔a=b:=by cases a;cases b;simp[gB]
theorem UR {a b:M}:gB a b=false↔a≠b:=by rw[←Bool.not_eq_true,bT]
theorem WX {p q y z:Int} (hy:0≤y∧y≤15) (hz:0≤z∧z≤15) (h:p*16+y=q*16+z):p=q∧y=z:=by omega
theorem Av {p q y z:Int} (hy:0≤y∧y≤65535) (hz:0≤z∧z≤65535) (h:p*65536+y=q*65536+z):y=z:=by omega
theorem AW {a b:M} (ha:a.ok=true) (hb:b.ok=true) (h:dY a=dY b):a=b:=by
 have ka:=M.ok_iff.1 ha;have kb:=M.ok_iff.1 hb
 have la:0≤fK a∧fK a≤65535:=by unfold fK;omega
 have lb:0≤fK b∧fK b≤65535:=by unfold fK;omega
 unfold dY at h;have h:=Av la lb h
 unfold fK at h;obtain⟨h,h1⟩:=WX ⟨ka.2.2.1,ka.2.2.2.1⟩ ⟨kb.2.2.1,kb.2.2.2.1⟩ h;obtain⟨h,h2⟩:=WX ⟨ka.1,ka.2.1⟩ ⟨kb.1,kb.2.1⟩ h;obtain⟨h,h3⟩:=WX ⟨ka.2.2.2.2.2.2.1,ka.2.2.2.2.2.2.2⟩ ⟨kb.2.2.2.2.2.2.1,kb.2.2.2.2.2.2.2⟩ h;cases a;cases b;simp only at h h1 h2 h3;subst h h1 h2 h3;rfl
def aL:List T→M→Int
 |[],_=>0
 |t::r,m=>if gB t.m m=true then t.c else aL r m
def aK (L:List T):Prop:=L.Pairwise (fun a b=>dY b.m<dY a.m)∧∀t∈L,t.m.ok=true∧1≤t.c∧t.c≤100
theorem kI {m:M}:∀{L:List T},(∀t∈L,dY t.m<dY m)→aL L m=0
 |[],_=>rfl
 |t::r,h=>by have h1:=h t (List.mem_cons_self ..);rw[aL,if_neg (fun e=>by rw[bT.1 e]at h1;omega)];exact kI (fun s hs=>h s (List.mem_cons_of_mem _ hs))
theorem gF {t:T} {r:List T} {m:M} (h:t.m≠m):aL (t::r) m=aL r m:=by rw[aL,if_neg (fun e=>h (bT.1 e))]
theorem bC (t:T) (r:List T):aL (t::r) t.m=t.c:=by rw[aL,if_pos (bT.2 rfl)]
theorem aK.tail {t:T} {r:List T} (h:aK (t::r)):aK r:=⟨(List.pairwise_cons.1 h.1).2,fun s hs=>h.2 s (List.mem_cons_of_mem _ hs)⟩
theorem aK.head {t:T} {r:List T} (h:aK (t::r)):∀s∈r,dY s.m<dY t.m:=(List.pairwise_cons.1 h.1).1
theorem mH:∀{L K:List T},aK L→aK K→(∀m,m.ok=true→aL L m=aL K m)→L=K
 |[],[],_,_,_=>rfl
 |[],t::r,_,hK,h=>by
  have h1:=hK.2 t (List.mem_cons_self ..);have h2:=h t.m h1.1
  rw[bC,aL]at h2;omega
 |t::r,[],hL,_,h=>by
  have h1:=hL.2 t (List.mem_cons_self ..);have h2:=h t.m h1.1
  rw[bC,aL]at h2;omega
 |s::p,t::r,hL,hK,h=>by
  have hs:=hL.2 s (List.mem_cons_self ..);have ht:=hK.2 t (List.mem_cons_self ..)
  rcases Int.lt_trichotomy (dY s.m) (dY t.m)with hlt|heq|hgt
  ·have h2:=h t.m ht.1
   rw[bC,kI (fun u hu=>by
    rcases List.mem_cons.1 hu with rfl|hu
    ·exact hlt
    ·have:=hL.head u hu;omega)]at h2
   omega
  ·have hm:s.m=t.m:=AW hs.1 ht.1 heq;have hc:s.c=t.c:=by have h2:=h s.m hs.1;rw[bC,hm,bC]at h2;exact h2
   have hst:s=t:=by cases s;cases t;simp only at hm hc;subst hm hc;rfl
   subst hst;have hrest:∀m,m.ok=true→aL p m=aL r m:=fun m hok=>by
    by_cases hm2:s.m=m
    ·subst hm2;rw[kI hL.head,kI hK.head]
    ·have h2:=h m hok;rw[gF hm2,gF hm2]at h2;exact h2
   rw[mH hL.tail hK.tail hrest]
  ·have h2:=h s.m hs.1
   rw[bC,kI (fun u hu=>by
    rcases List.mem_cons.1 hu with rfl|hu
    ·exact hgt
    ·have:=hK.head u hu;omega)]at h2
   omega
def M4 (w:World) (b:Nat) (x y d e:Int):Prop:=
 w.cell? ⟨b,0,none⟩=some (.int .i64 x)∧w.cell? ⟨b,1,none⟩=some (.int .i64 y)∧w.cell? ⟨b,2,none⟩=some (.int .i64 d)∧w.cell? ⟨b,3,none⟩=some (.int .i64 e)
theorem M4.lt {w:World} {b:Nat} {x y d e:Int} (h:M4 w b x y d e):b<w.heap.size:=cU w _ h.1
theorem M4.below {w w':World} {b:Nat} {x y d e:Int} (h:M4 w b x y d e) (hb:Below w.heap.size w w'):M4 w' b x y d e:=
 ⟨(hb.cell (p:=⟨b,0,none⟩) h.lt).trans h.1,(hb.cell (p:=⟨b,1,none⟩) h.lt).trans h.2.1,(hb.cell (p:=⟨b,2,none⟩) h.lt).trans h.2.2.1,(hb.cell (p:=⟨b,3,none⟩) h.lt).trans h.2.2.2⟩
theorem M4.box (w:World) (t:TypeId) (x y d e:Int):M4 (w.alloc (.cells #[.int .i64 x,.int .i64 y,.int .i64 d,.int .i64 e] t)) w.heap.size x y d e:=
 ⟨by rw[World.cell?_alloc_at _ _ _ _ rfl];rfl,by rw[World.cell?_alloc_at _ _ _ _ rfl];rfl,by rw[World.cell?_alloc_at _ _ _ _ rfl];rfl,by rw[World.cell?_alloc_at _ _ _ _ rfl];rfl⟩
theorem M4.drew' {w:World} {b:Nat} {x y d e:Int} (h:M4 w b x y d e):M4 w.drew b x y d e:=h.below (cE _ _).drew
theorem M4.grown {w w':World} {b:Nat} {x y d e:Int} {row:Option Nat} (h:M4 w b x y d e) (hg:w.grownBy w' row) (hne:some b≠row):M4 w' b x y d e:=by have he:=hg.block b h.lt hne;exact⟨(lH (w:=w) (a:=⟨b,0,none⟩) he).trans h.1,(lH (w:=w) (a:=⟨b,1,none⟩) he).trans h.2.1,(lH (w:=w) (a:=⟨b,2,none⟩) he).trans h.2.2.1,(lH (w:=w) (a:=⟨b,3,none⟩) he).trans h.2.2.2⟩
theorem M4.alloc {w:World} {b:Nat} {x y d e:Int} (h:M4 w b x y d e) (o:Obj):M4 (w.alloc o) b x y d e:=h.below ((cE _ _).alloc (Nat.le_refl _) _)
open Go.RowKit Go.Deep Go.Joins
end Go.Proofs.YtncffcaabnjioaaGreat
