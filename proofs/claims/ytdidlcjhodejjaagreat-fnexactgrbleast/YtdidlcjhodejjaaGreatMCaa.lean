/-
  Monomials that come in, are copied and are held against each other.
-/
import Derived.Test.YtdidlcjhodejjaaGreatMar
namespace Go.Proofs.YtdidlcjhodejjaaGreat
open Go.RowKit Go.Deep Go.Joins
set_option linter.unusedVariables false
def M.eqB (a b:M):Bool:=decide (a.x=b.x∧a.y=b.y∧a.d=b.d∧a.e=b.e)
theorem M.eqB_iff {a b:M}:a.eqB b=true↔a=b:=by cases a;cases b;simp[M.eqB]
end Go.Proofs.YtdidlcjhodejjaaGreat
namespace Go.Proofs.YtdidlcjhodejjaaGreat
open Go.RowKit
set_option linter.unusedVariables false
def T.eqB (a b:T):Bool:=decide (a.c=b.c)&&a.m.eqB b.m
theorem T.eqB_iff {a b:T}:a.eqB b=true↔a=b:=by cases a;cases b;simp[T.eqB,M.eqB_iff]
def aO (n:Nat) (f:Nat→T) (n':Nat) (f':Nat→T):Bool:=decide (n=n'∧∀i,i<n→(f i).eqB (f' i)=true)
open Go.RowKit Go.Deep Go.Joins
set_option linter.unusedSimpArgs false
theorem QF {o:Oper} {a:Act} {K:Act→World→Prop} {Q:Exit→Act→World→Prop} (s x:Operand) (ho:o.op= .call {callee:=.builtin .append,args:=#[s,x],argTypes:=#[24,24]}) {lo:Nat} {W:World} {tv:Value} {es:List E} (hR:dA lo W tv es) (hs:a.eval s=tv) {pa:Option Addr} {pc m:Nat} {es':List E} (hm:es'.length=m) (hx:a.eval x= .slice pa m pc) (hrd:nG W pa pc es') (hel:∀e∈es',mU W tv.ownBlock e) (hlo:lo≤W.heap.size) (hn:es.length+m≤100) (h:∀tv' w',dA lo w' tv' (es++es')→(∀N w0,Below N w0 W→N≤lo→Below N w0 w')→W.heap.size≤w'.heap.size→K (a.put o.dst tv') w'):Oper.wp Tryz.prog o a W K Q:=by
 obtain⟨i0,hi0,hz0,hz1,hz2⟩:=pU;by_cases h0:m=0
 ·have hrun:=IH (P:=Tryz.prog) (w:=W) lo 24 o.type 45 i0 1 Tryz.underlying24 hi0 tv es.length (es.map E.v) hR.row pa pc;have e0:es'=[]:=List.length_eq_zero_iff.1 (by omega)
  subst h0;unfold Oper.wp;simp[execOp,ho,resolve,invoke,builtin,hs,hx,hrun,Result.andThen];exact h tv W (by rw[e0,List.append_nil];exact hR) (fun N w0 hb _=>hb) (Nat.le_refl _)
 ·obtain⟨b,off,e1,hb,hc⟩:=hrd.2.2.1.resolve_left (by omega);subst e1;refine wp_append_lies W s x 24 ho lo 45 i0 _ 1 24 Tryz.underlying24 hi0 hz0 hz1 hz2 rfl (by omega) tv es.length (es.map E.v) hs hR.row ⟨b,off,none⟩ m pc (es'.map E.v) hx (by rw[List.length_map];omega) hrd.news (Oc es') (by omega) (by unfold maxLen;omega) (by omega) hlo _ rfl ?_;intro g cap w' hown hgrow hat hlt;refine h _ _ ?_ (fun N w0 hb0 hN=>hb0.grown hgrow (by omega) (fun k e=>jZ hN (hR.row.lt k e).1)) ((bL 0 W).grown hgrow (Nat.zero_le _) (fun _ _=>Nat.zero_le _)).size;have:=hR.app (es':=es') hel (g0:=g) (cap0:=cap) hgrow (by rw[hm];exact hown) hat
  rw[hm]at this;exact this
theorem eJ {ops:Array Oper} {rest:List Oper} {o:Oper} {a:Act} {Q:Exit→Act→World→Prop} (hgd:o.guard=none) (s x:Operand) (ho:o.op= .call {callee:=.builtin .append,args:=#[s,x],argTypes:=#[24,24]}) {lo:Nat} {W:World} {tv:Value} {es:List E} (hR:dA lo W tv es) (hs:a.eval s=tv) {pa:Option Addr} {pc m:Nat} {es':List E} (hm:es'.length=m) (hx:a.eval x= .slice pa m pc) (hrd:nG W pa pc es') (hel:∀e∈es',mU W tv.ownBlock e) (hlo:lo≤W.heap.size) (hn:es.length+m≤100) (h:∀tv' w',dA lo w' tv' (es++es')→(∀N w0,Below N w0 W→N≤lo→Below N w0 w')→W.heap.size≤w'.heap.size→wpList Tryz.prog ops Q rest (a.put o.dst tv') w'):wpList Tryz.prog ops Q (o::rest) a W:=
 wpList_plain hgd fun _ hK=>QF s x ho hR hs hm hx hrd hel hlo hn fun tv' w' h1 h2 h3=>hK _ _ (h tv' w' h1 h2 h3)
theorem nG.box {W:World} {e:E} (h:RL W e.a e.c e.p):nG (W.alloc (.cells #[e.v] 45)) (some ⟨W.heap.size,0,none⟩) 1 [e]:=by
 refine⟨Nat.le_refl _,by show 1≤100;omega,.inr ⟨W.heap.size,0,rfl,by simp,fun i e' he=>?_⟩,fun e' he=>?_⟩
 ·have hi:i<1:=(List.getElem?_eq_some_iff.1 he).1;have:i=0:=by omega
  subst this;have:e=e':=by simpa using he
  subst this;rw[World.cell?_alloc_at _ _ _ _ rfl];rfl
 ·rw[List.mem_singleton.1 he];exact Rd.below h (aC _ _)
end Go.Proofs.YtdidlcjhodejjaaGreat
