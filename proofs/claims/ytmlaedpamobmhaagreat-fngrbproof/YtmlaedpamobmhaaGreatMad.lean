/-
  An operator is its numbers: two lists of terms that fall, with the same numbers, are one.
  The four cells of a monomial.
  Monomials that come in, are copied and are held against each other.
-/
import Derived.Test.YtmlaedpamobmhaaGreatMac
import Derived.ProofKit
import Derived.Deep.OwnRows
import Derived.Lib.SmallJoins
namespace Go.Proofs.YtmlaedpamobmhaaGreat
open Go.RowKit
set_option linter.unusedVariables false
def gP (a b:M):Bool:=decide (a.x=b.x∧a.y=b.y∧a.d=b.d∧a.e=b.e)
theorem cF {a b:M}:gP a b=true↔a=b:=by cases a;cases b;simp[gP]
theorem YQ {a b:M}:gP a b=false↔a≠b:=by rw[←Bool.not_eq_true,cF]
theorem Bz {p q y z:Int} (hy:0≤y∧y≤15) (hz:0≤z∧z≤15) (h:p*16+y=q*16+z):p=q∧y=z:=by omega
theorem Gu {p q y z:Int} (hy:0≤y∧y≤65535) (hz:0≤z∧z≤65535) (h:p*65536+y=q*65536+z):y=z:=by omega
theorem DM {a b:M} (ha:a.ok=true) (hb:b.ok=true) (h:eQ a=eQ b):a=b:=by
 have ka:=M.ok_iff.1 ha;have kb:=M.ok_iff.1 hb
 have la:0≤gE a∧gE a≤65535:=by unfold gE;omega
 have lb:0≤gE b∧gE b≤65535:=by unfold gE;omega
 unfold eQ at h;have h:=Gu la lb h
 unfold gE at h;obtain⟨h,h1⟩:=Bz ⟨ka.2.2.1,ka.2.2.2.1⟩ ⟨kb.2.2.1,kb.2.2.2.1⟩ h;obtain⟨h,h2⟩:=Bz ⟨ka.1,ka.2.1⟩ ⟨kb.1,kb.2.1⟩ h;obtain⟨h,h3⟩:=Bz ⟨ka.2.2.2.2.2.2.1,ka.2.2.2.2.2.2.2⟩ ⟨kb.2.2.2.2.2.2.1,kb.2.2.2.2.2.2.2⟩ h;cases a;cases b;simp only at h h1 h2 h3;subst h h1 h2 h3;rfl
def aM:List T→M→Int
 |[],_=>0
 |t::r,m=>if gP t.m m=true then t.c else aM r m
def aK (L:List T):Prop:=L.Pairwise (fun a b=>eQ b.m<eQ a.m)∧∀t∈L,t.m.ok=true∧1≤t.c∧t.c≤100
theorem kT {m:M}:∀{L:List T},(∀t∈L,eQ t.m<eQ m)→aM L m=0
 |[],_=>rfl
 |t::r,h=>by have h1:=h t (List.mem_cons_self ..);rw[aM,if_neg (fun e=>by rw[cF.1 e]at h1;omega)];exact kT (fun s hs=>h s (List.mem_cons_of_mem _ hs))
theorem gZ {t:T} {r:List T} {m:M} (h:t.m≠m):aM (t::r) m=aM r m:=by rw[aM,if_neg (fun e=>h (cF.1 e))]
theorem bK (t:T) (r:List T):aM (t::r) t.m=t.c:=by rw[aM,if_pos (cF.2 rfl)]
theorem aK.tail {t:T} {r:List T} (h:aK (t::r)):aK r:=⟨(List.pairwise_cons.1 h.1).2,fun s hs=>h.2 s (List.mem_cons_of_mem _ hs)⟩
theorem aK.head {t:T} {r:List T} (h:aK (t::r)):∀s∈r,eQ s.m<eQ t.m:=(List.pairwise_cons.1 h.1).1
theorem kV:∀{L K:List T},aK L→aK K→(∀m,m.ok=true→aM L m=aM K m)→L=K
 |[],[],_,_,_=>rfl
 |[],t::r,_,hK,h=>by
  have h1:=hK.2 t (List.mem_cons_self ..);have h2:=h t.m h1.1
  rw[bK,aM]at h2;omega
 |t::r,[],hL,_,h=>by
  have h1:=hL.2 t (List.mem_cons_self ..);have h2:=h t.m h1.1
  rw[bK,aM]at h2;omega
 |s::p,t::r,hL,hK,h=>by
  have hs:=hL.2 s (List.mem_cons_self ..);have ht:=hK.2 t (List.mem_cons_self ..)
  rcases Int.lt_trichotomy (eQ s.m) (eQ t.m)with hlt|heq|hgt
  ·have h2:=h t.m ht.1
   rw[bK,kT (fun u hu=>by
    rcases List.mem_cons.1 hu with rfl|hu
    ·exact hlt
    ·have:=hL.head u hu;omega)]at h2
   omega
  ·have hm:s.m=t.m:=DM hs.1 ht.1 heq;have hc:s.c=t.c:=by have h2:=h s.m hs.1;rw[bK,hm,bK]at h2;exact h2
   have hst:s=t:=by cases s;cases t;simp only at hm hc;subst hm hc;rfl
   subst hst;have hrest:∀m,m.ok=true→aM p m=aM r m:=fun m hok=>by
    by_cases hm2:s.m=m
    ·subst hm2;rw[kT hL.head,kT hK.head]
    ·have h2:=h m hok;rw[gZ hm2,gZ hm2]at h2;exact h2
   rw[kV hL.tail hK.tail hrest]
  ·have h2:=h s.m hs.1
   rw[bK,kT (fun u hu=>by
    rcases List.mem_cons.1 hu with rfl|hu
    ·exact hgt
    ·have:=hK.head u hu;omega)]at h2
   omega
def M4 (w:World) (b:Nat) (x y d e:Int):Prop:=
 w.cell? ⟨b,0,none⟩=some (.int .i64 x)∧w.cell? ⟨b,1,none⟩=some (.int .i64 y)∧w.cell? ⟨b,2,none⟩=some (.int .i64 d)∧w.cell? ⟨b,3,none⟩=some (.int .i64 e)
theorem M4.lt {w:World} {b:Nat} {x y d e:Int} (h:M4 w b x y d e):b<w.heap.size:=cE w _ h.1
theorem M4.below {w w':World} {b:Nat} {x y d e:Int} (h:M4 w b x y d e) (hb:Below w.heap.size w w'):M4 w' b x y d e:=
 ⟨(hb.cell (p:=⟨b,0,none⟩) h.lt).trans h.1,(hb.cell (p:=⟨b,1,none⟩) h.lt).trans h.2.1,(hb.cell (p:=⟨b,2,none⟩) h.lt).trans h.2.2.1,(hb.cell (p:=⟨b,3,none⟩) h.lt).trans h.2.2.2⟩
theorem M4.box (w:World) (t:TypeId) (x y d e:Int):M4 (w.alloc (.cells #[.int .i64 x,.int .i64 y,.int .i64 d,.int .i64 e] t)) w.heap.size x y d e:=
 ⟨by rw[World.cell?_alloc_at _ _ _ _ rfl];rfl,by rw[World.cell?_alloc_at _ _ _ _ rfl];rfl,by rw[World.cell?_alloc_at _ _ _ _ rfl];rfl,by rw[World.cell?_alloc_at _ _ _ _ rfl];rfl⟩
theorem M4.drew' {w:World} {b:Nat} {x y d e:Int} (h:M4 w b x y d e):M4 w.drew b x y d e:=h.below (bQ _ _).drew
theorem M4.grown {w w':World} {b:Nat} {x y d e:Int} {row:Option Nat} (h:M4 w b x y d e) (hg:w.grownBy w' row) (hne:some b≠row):M4 w' b x y d e:=by have he:=hg.block b h.lt hne;exact⟨(mB (w:=w) (a:=⟨b,0,none⟩) he).trans h.1,(mB (w:=w) (a:=⟨b,1,none⟩) he).trans h.2.1,(mB (w:=w) (a:=⟨b,2,none⟩) he).trans h.2.2.1,(mB (w:=w) (a:=⟨b,3,none⟩) he).trans h.2.2.2⟩
theorem M4.alloc {w:World} {b:Nat} {x y d e:Int} (h:M4 w b x y d e) (o:Obj):M4 (w.alloc o) b x y d e:=h.below ((bQ _ _).alloc (Nat.le_refl _) _)
open Go.RowKit Go.Deep Go.Joins
end Go.Proofs.YtmlaedpamobmhaaGreat
