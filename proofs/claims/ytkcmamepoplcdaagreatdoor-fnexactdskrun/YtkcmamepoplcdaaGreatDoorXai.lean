/-
  What reading a line hands back; a box of a line's five cells.
-/
import Derived.Test.YtkcmamepoplcdaaGreatDoorXah
import Derived.Deep.Slices
import Derived.Orders
import Derived.OrdersIn
import Derived.RangeFuncCalls
import Derived.Deep.Quiet
import Derived.RangeFuncNested
import Derived.RangeFuncLeaves
import Derived.Deep.RegionWith
import Derived.OwnWalkIn
import Derived.TacticsInMore
import Derived.LoopNIn
import Derived.LoopIn
import Derived.Sort.Row
import Derived.Shelf.SlSortCmp.QuietGrown
set_option maxHeartbeats 4000000
set_option maxRecDepth 100000
namespace Go.Proofs.YtkcmamepoplcdaaGreatDoor
open Go.RowKit
set_option linter.unusedVariables false
def iB (w:World) (s:List UInt8) (r:Ending) (w':World):Prop:=∃pa cap,r= .returned (.tuple #[.agg #[.int .i64 (eI s).1.k,.int .i64 (eI s).1.to,.int .i64 (eI s).1.a,.int .i64 (eI s).1.b,.slice pa (eI s).1.P.length cap],.bool (eI s).2])∧Below w.heap.size w w'∧iJ w.heap.size w' pa cap (eI s).1.P
theorem mP (lo:Nat) (w:World):iJ lo w none 0 []:=⟨⟨Nat.le_refl _,by simp,.inl rfl⟩,.inl rfl,.inl rfl⟩
theorem yC {w w':World} {s:List UInt8} (h:∀l,cD l s→False) (hb:Below w.heap.size w w'):iB w s (.returned (.tuple #[.agg #[.int .i64 0,.int .i64 0,.int .i64 0,.int .i64 0,.slice none 0 0],.bool false])) w':=by unfold iB;rw[AX h];exact⟨none,0,rfl,hb,mP _ _⟩
theorem lT {w w':World} {s:List UInt8} {l:kR} {pa:Option Addr} {cap:Nat} (h:cD l s) (hb:Below w.heap.size w w') (ho:iJ w.heap.size w' pa cap l.P):iB w s (.returned (.tuple #[.agg #[.int .i64 l.k,.int .i64 l.to,.int .i64 l.a,.int .i64 l.b,.slice pa l.P.length cap],.bool true])) w':=by unfold iB;rw[AW h];exact⟨pa,cap,rfl,hb,ho⟩
def V5 (w:World) (b:Nat) (x0 x1 x2 x3 x4:Value):Prop:=(w.cell? ⟨b,0,none⟩=some x0∧w.cell? ⟨b,1,none⟩=some x1∧w.cell? ⟨b,2,none⟩=some x2∧w.cell? ⟨b,3,none⟩=some x3∧w.cell? ⟨b,4,none⟩=some x4)∧∀j,w.frozen? ⟨b,j,none⟩=false
theorem V5.lt {w:World} {b:Nat} {x0 x1 x2 x3 x4:Value} (h:V5 w b x0 x1 x2 x3 x4):b<w.heap.size:=EU w _ h.1.1
theorem V5.below {w w':World} {b:Nat} {x0 x1 x2 x3 x4:Value} (h:V5 w b x0 x1 x2 x3 x4) (hb:Below w.heap.size w w'):V5 w' b x0 x1 x2 x3 x4:=
 ⟨⟨(hb.cell (p:=⟨b,0,none⟩) h.lt).trans h.1.1,(hb.cell (p:=⟨b,1,none⟩) h.lt).trans h.1.2.1,(hb.cell (p:=⟨b,2,none⟩) h.lt).trans h.1.2.2.1,(hb.cell (p:=⟨b,3,none⟩) h.lt).trans h.1.2.2.2.1,(hb.cell (p:=⟨b,4,none⟩) h.lt).trans h.1.2.2.2.2⟩,fun j=>(hb.frozen (p:=⟨b,j,none⟩) h.lt).trans (h.2 j)⟩
theorem V5.box (w:World) (y:TypeId) (x0 x1 x2 x3 x4:Value):V5 (w.alloc (.cells #[x0,x1,x2,x3,x4] y)) w.heap.size x0 x1 x2 x3 x4:=
 ⟨⟨by rw[World.cell?_alloc_at _ _ _ _ rfl];rfl,by rw[World.cell?_alloc_at _ _ _ _ rfl];rfl,by rw[World.cell?_alloc_at _ _ _ _ rfl];rfl,by rw[World.cell?_alloc_at _ _ _ _ rfl];rfl,by rw[World.cell?_alloc_at _ _ _ _ rfl];rfl⟩,fun j=>by rw[World.frozen?_alloc_at _ _ _ _ rfl]⟩
theorem V5.other {w:World} {b:Nat} {x0 x1 x2 x3 x4:Value} (h:V5 w b x0 x1 x2 x3 x4) {b' k:Nat} (hne:b'≠b) (v:Value):V5 (w.setCell ⟨b',k,none⟩ v) b x0 x1 x2 x3 x4:=by have ne:∀j,(⟨b',k,none⟩:Addr)≠⟨b,j,none⟩:=fun j e=>hne (by cases e;rfl);exact⟨⟨by rw[World.cell?_setCell_other _ _ _ _ (ne 0)];exact h.1.1,by rw[World.cell?_setCell_other _ _ _ _ (ne 1)];exact h.1.2.1,by rw[World.cell?_setCell_other _ _ _ _ (ne 2)];exact h.1.2.2.1,by rw[World.cell?_setCell_other _ _ _ _ (ne 3)];exact h.1.2.2.2.1,by rw[World.cell?_setCell_other _ _ _ _ (ne 4)];exact h.1.2.2.2.2⟩,fun j=>by rw[World.frozen?_setCell];exact h.2 j⟩
theorem V5.set2 {w:World} {b:Nat} {x0 x1 x2 x3 x4:Value} (h:V5 w b x0 x1 x2 x3 x4) (v:Value):V5 (w.setCell ⟨b,2,none⟩ v) b x0 x1 v x3 x4:=
 ⟨⟨by rw[World.cell?_setCell_other _ _ _ _ (by simp)];exact h.1.1,by rw[World.cell?_setCell_other _ _ _ _ (by simp)];exact h.1.2.1,World.cell?_setCell_same _ _ _ h.1.2.2.1,by rw[World.cell?_setCell_other _ _ _ _ (by simp)];exact h.1.2.2.2.1,by rw[World.cell?_setCell_other _ _ _ _ (by simp)];exact h.1.2.2.2.2⟩,fun j=>by rw[World.frozen?_setCell];exact h.2 j⟩
theorem V5.set3 {w:World} {b:Nat} {x0 x1 x2 x3 x4:Value} (h:V5 w b x0 x1 x2 x3 x4) (v:Value):V5 (w.setCell ⟨b,3,none⟩ v) b x0 x1 x2 v x4:=
 ⟨⟨by rw[World.cell?_setCell_other _ _ _ _ (by simp)];exact h.1.1,by rw[World.cell?_setCell_other _ _ _ _ (by simp)];exact h.1.2.1,by rw[World.cell?_setCell_other _ _ _ _ (by simp)];exact h.1.2.2.1,World.cell?_setCell_same _ _ _ h.1.2.2.2.1,by rw[World.cell?_setCell_other _ _ _ _ (by simp)];exact h.1.2.2.2.2⟩,fun j=>by rw[World.frozen?_setCell];exact h.2 j⟩
theorem V5.set4 {w:World} {b:Nat} {x0 x1 x2 x3 x4:Value} (h:V5 w b x0 x1 x2 x3 x4) (v:Value):V5 (w.setCell ⟨b,4,none⟩ v) b x0 x1 x2 x3 v:=
 ⟨⟨by rw[World.cell?_setCell_other _ _ _ _ (by simp)];exact h.1.1,by rw[World.cell?_setCell_other _ _ _ _ (by simp)];exact h.1.2.1,by rw[World.cell?_setCell_other _ _ _ _ (by simp)];exact h.1.2.2.1,by rw[World.cell?_setCell_other _ _ _ _ (by simp)];exact h.1.2.2.2.1,World.cell?_setCell_same _ _ _ h.1.2.2.2.2⟩,fun j=>by rw[World.frozen?_setCell];exact h.2 j⟩
theorem V5.set0 {w:World} {b:Nat} {x0 x1 x2 x3 x4:Value} (h:V5 w b x0 x1 x2 x3 x4) (v:Value):V5 (w.setCell ⟨b,0,none⟩ v) b v x1 x2 x3 x4:=
 ⟨⟨World.cell?_setCell_same _ _ _ h.1.1,by rw[World.cell?_setCell_other _ _ _ _ (by simp)];exact h.1.2.1,by rw[World.cell?_setCell_other _ _ _ _ (by simp)];exact h.1.2.2.1,by rw[World.cell?_setCell_other _ _ _ _ (by simp)];exact h.1.2.2.2.1,by rw[World.cell?_setCell_other _ _ _ _ (by simp)];exact h.1.2.2.2.2⟩,fun j=>by rw[World.frozen?_setCell];exact h.2 j⟩
theorem V5.set1 {w:World} {b:Nat} {x0 x1 x2 x3 x4:Value} (h:V5 w b x0 x1 x2 x3 x4) (v:Value):V5 (w.setCell ⟨b,1,none⟩ v) b x0 v x2 x3 x4:=
 ⟨⟨by rw[World.cell?_setCell_other _ _ _ _ (by simp)];exact h.1.1,World.cell?_setCell_same _ _ _ h.1.2.1,by rw[World.cell?_setCell_other _ _ _ _ (by simp)];exact h.1.2.2.1,by rw[World.cell?_setCell_other _ _ _ _ (by simp)];exact h.1.2.2.2.1,by rw[World.cell?_setCell_other _ _ _ _ (by simp)];exact h.1.2.2.2.2⟩,fun j=>by rw[World.frozen?_setCell];exact h.2 j⟩
theorem nW {lo lo':Nat} {w:World} {a:Option Addr} {cap:Nat} {L:List T} (h:iJ lo w a cap L) (hl:lo'≤lo):iJ lo' w a cap L:=⟨h.1,h.2.1,h.2.2.imp id (fun⟨g,off,e,q⟩=>⟨g,off,e,jW hl q⟩)⟩
theorem lW {lo:Nat} {w:World} {a:Option Addr} {cap:Nat} {L:List T} (h:iJ lo w a cap L) {b k:Nat} {v:Value} (hb:b<lo):iJ lo (w.setCell ⟨b,k,none⟩ v) a cap L:=by
 obtain⟨⟨h1,h2,h3⟩,h4,h5⟩:=h;refine⟨⟨h1,h2,?_⟩,?_,h5⟩
 ·rcases h3 with h0|⟨g,off,e,hlt,hc⟩
  ·exact .inl h0
  ·rcases h5 with h0|⟨g',off',e',hg⟩
   ·exact .inl h0
   ·rw[e]at e';cases e';have ne:∀j,(⟨b,k,none⟩:Addr)≠⟨g,j,none⟩:=fun j q=>by cases q;omega
    refine .inr ⟨g,off,e,by simpa using hlt,fun i hi=>?_⟩;obtain⟨c0,c1,c2,c3,c4⟩:=hc i hi;exact⟨by rw[World.cell?_setCell_other _ _ _ _ (ne _)];exact c0,by rw[World.cell?_setCell_other _ _ _ _ (ne _)];exact c1,by rw[World.cell?_setCell_other _ _ _ _ (ne _)];exact c2,by rw[World.cell?_setCell_other _ _ _ _ (ne _)];exact c3,by rw[World.cell?_setCell_other _ _ _ _ (ne _)];exact c4⟩
 ·rcases h4 with h0|⟨g,off,M,F,e,hr,hn,hf⟩
  ·exact .inl h0
  ·rcases h5 with h0|⟨g',off',e',hg⟩
   ·exact .inl h0
   ·rw[e]at e';cases e';obtain⟨c,hc,hz⟩:=hr;exact .inr ⟨g,off,M,F,e,⟨c,by rw[Below.heap_setCell _ _ _ _ (show g≠b by omega)];exact hc,hz⟩,hn,hf⟩
theorem rQ {lo:Nat} {w:World} {a:Option Addr} {cap:Nat} {L:List T} (h:iJ lo w a cap L) {b:Nat} (hb:b<lo) (v0 v1 v2 v3 v4:Value):iJ lo (((((w.setCell ⟨b,0,none⟩ v0).setCell ⟨b,1,none⟩ v1).setCell ⟨b,2,none⟩ v2).setCell ⟨b,3,none⟩ v3).setCell ⟨b,4,none⟩ v4) a cap L:=lW (lW (lW (lW (lW h hb) hb) hb) hb) hb
theorem Wr.grown {w w':World} {a:Option Addr} {n:Nat} {f:Nat→T} {row:Option Nat} (h:Wr w a n f) (hg:w.grownBy w' row) (hne:n=0∨∀b off,a=some ⟨b,off,none⟩→some b≠row):Wr w' a n f:=by
 rcases h with h0|⟨g,off,N,F,rfl,hR,hN,hF⟩
 ·exact .inl h0
 ·rcases hne with h0|hne
  ·exact .inl h0
  ·exact .inr ⟨g,off,N,F,rfl,hR.of_block (hg.block g hR.lt (hne g off rfl)),hN,hF⟩
theorem Own.wr {w:World} {g n:Nat} {f:Nat→T} (h:Own w g n f):Wr w (some ⟨g,0,none⟩) n f:=
 .inr ⟨g,0,n*5,cf f,rfl,h,by omega,fun j hj=>by rw[Nat.zero_add]⟩
def sT (a:Option Addr) (n B:Nat):Prop:=n=0∨∀b off,a=some ⟨b,off,none⟩→b<B
def KL (a:Option Addr) (n B:Nat):Prop:=n=0∨∀b off,a=some ⟨b,off,none⟩→B≤b
theorem iJ.from {lo:Nat} {w:World} {a:Option Addr} {cap:Nat} {L:List T} (h:iJ lo w a cap L):KL a L.length lo:=by
 rcases h.2.2 with h0|⟨g,off,rfl,hlo⟩
 ·exact .inl h0
 ·exact .inr fun b' off' e=>by cases e;exact hlo
theorem sT.off {a:Option Addr} {n B X:Nat} (h:sT a n B) (hX:B≤X):n=0∨∀b off,a=some ⟨b,off,none⟩→some b≠some X:=by
 rcases h with h0|h
 ·exact .inl h0
 ·exact .inr fun b off e=>by have:=h b off e;simp;omega
theorem KL.off {a:Option Addr} {n B X:Nat} (h:KL a n B) (hX:X<B):n=0∨∀b off,a=some ⟨b,off,none⟩→some b≠some X:=by
 rcases h with h0|h
 ·exact .inl h0
 ·exact .inr fun b off e=>by have:=h b off e;simp;omega
theorem sT.mono {a:Option Addr} {n B B':Nat} (h:sT a n B) (hB:B≤B'):sT a n B':=by
 rcases h with h0|h
 ·exact .inl h0
 ·exact .inr fun b off e=>eB (h b off e) hB
theorem apart {a c:Option Addr} {n m B:Nat} (h:sT a n B) (k:KL c m B) (hm:m≠0) {w:World} {f:Nat→T} (hw:Wr w c m f):n=0∨∀b off,a=some ⟨b,off,none⟩→some b≠c.map (·.block):=by
 rcases h with h0|h
 ·exact .inl h0
 ·rcases k with k0|k
  ·exact absurd k0 hm
  ·rcases hw with w0|⟨g,off,N,F,rfl,_⟩
   ·exact absurd w0 hm
   ·exact .inr fun b off' e=>by
     have h1:=h b off' e;have h2:=k g off rfl
     simp;omega
theorem mQ (f:Nat→T) (la:Nat) (g:Nat→T) (lb:Nat):(cH f la g lb).1.length≤400:=by
 unfold cH;split
 ·rename_i h;exact h.2.2
 ·simp
open Go.RowKit Go.Deep Go.Joins
def pT (w:World) (a:Option Addr) (n cap:Nat) (ad:Nat→Option Addr) (ln cp:Nat→Nat) (f:Nat→Nat→T):Prop:=
 n≤cap∧n*40≤140737488351232∧(n=0∨∃b off,a=some ⟨b,off,none⟩∧b<w.heap.size∧∀i,i<n→w.cell? ⟨b,off+i,none⟩=some (.slice (ad i) (ln i) (cp i)))∧∀i,i<n→Rd w (ad i) (ln i) (cp i) (f i)
theorem pT.below {w w':World} {a:Option Addr} {n cap:Nat} {ad:Nat→Option Addr} {ln cp:Nat→Nat} {f:Nat→Nat→T} (h:pT w a n cap ad ln cp f) (hb:Below w.heap.size w w'):pT w' a n cap ad ln cp f:=by
 refine⟨h.1,h.2.1,?_,fun i hi=>(h.2.2.2 i hi).below hb⟩;rcases h.2.2.1 with h0|⟨b,off,he,hlt,hc⟩
 ·exact .inl h0
 ·exact .inr ⟨b,off,he,eB hlt hb.size,fun i hi=>(hb.cell (p:=⟨b,off+i,none⟩) hlt).trans (hc i hi)⟩
end Go.Proofs.YtkcmamepoplcdaaGreatDoor
namespace Go.Proofs.YtkcmamepoplcdaaGreatDoor
open Go.RowKit
def kP (l:Array Bool):Nat:=(l.toList.filter (fun b=>b==false)).length
theorem pO:∀(l:List Bool) (i:Nat),l[i]? =some false→((l.set i true).filter (fun b=>b==false)).length+1=(l.filter (fun b=>b==false)).length
 |[],i,h=>by simp at h
 |b::r,0,h=>by simp at h;subst h;simp
 |b::r,i+1,h=>by have ih:=pO r i (by simpa using h);cases b<;>simp at ih⊢<;>omega
theorem sG {l:Array Bool} {i:Nat} (h:l[i]? =some false):kP (l.setIfInBounds i true)+1=kP l:=by unfold kP;rw[Array.toList_setIfInBounds];exact pO _ _ (by simpa using h)
theorem gL:∀(l:List Bool),(l.filter (fun b=>b==false)).length=0→∀i:Nat,l[i]? ≠some false
 |[],_,i,h=>by simp at h
 |b::r,hl,0,h=>by simp at h;subst h;simp at hl
 |b::r,hl,i+1,h=>by refine gL r ?_ i (by simpa using h);cases b<;>simp at hl⊢;exact hl
theorem eL {l:Array Bool} {i:Nat} (h:l.getD i true=false):l[i]? =some false:=by
 rw[Array.getD_eq_getD_getElem?]at h;cases hx:l[i]? with
 |none=>rw[hx]at h;simp at h
 |some b=>rw[hx]at h;simp at h;rw[h]
theorem uT {P:Program} {md:Region.Mode} {ops:Array Oper} {Q:Exit→Act→World→Prop} {I:Array Bool→Act→World→Prop} (hs:∀l a w,I l a w→∀i∈Region.ready md ops l,wpOp P ops Q i (I (l.setIfInBounds i true)) a w) (he:∀l a w,I l a w→Region.ready md ops l=[]→Q .normal a w):∀(fuel:Nat) (l:Array Bool) (a:Act) (w:World),kP l≤fuel→I l a w→wpAny P md ops Q fuel l a w
 |0,l,a,w,hf,hI=>by
  have hr:Region.ready md ops l=[]:=by
   rw[List.eq_nil_iff_forall_not_mem];intro i hi;have h0:=eL (mem_ready.1 hi).1
   exact gL l.toList (by unfold kP at hf;omega) i (by simpa using h0)
  exact⟨hr,he l a w hI hr⟩
 |fuel+1,l,a,w,hf,hI=>by
  refine⟨fun hr=>he l a w hI hr,fun i hi=>?_⟩;have h0:=eL (mem_ready.1 hi).1
  have h1:=sG h0;exact wpOp_mono (fun a' w' h=>uT hs he fuel _ a' w' (by omega) h) (hs l a w hI i hi)
theorem jU (n:Nat):kP (Array.replicate n false)=n:=by unfold kP;simp
set_option linter.unusedVariables false
theorem AH {n l:Nat} {P:Program} {row:String} {args:Array Value} {w:World} {R:Value→World→Prop} (h:Rows P row args w R):RowsIn (Fence.wide.inRound l) n P row args w R:=
 fun c cs _=>let⟨v,w',r,s⟩:=h c cs;⟨v,w',r,stepsIn_wide.2 s⟩
theorem zZ {n l:Nat} {P:Program} {o:Oper} {a:Act} {w:World} {K:Act→World→Prop} {Q:Exit→Act→World→Prop} (hd:∀c,o.op≠ .defer c) (h:o.wp P a w K Q):o.wpIn (Fence.wide.inRound l) n P a w K Q:=by
 refine⟨fun f _=>trivial,?_⟩;unfold Oper.wp at h;rw[show(Fence.wide.inRound l).round=some l from rfl,Oper.semAt_some l _ _ hd];generalize(execOp a.eval o).run P w=r at *;cases r with
 |ok x w'=>
  cases x<;>simp only[Oper.upon,Oper.uponIn]at h⊢<;>first
   |exact h
   |exact⟨fun e=>(by cases e),CallsIn.inRound l (callsIn_wide.2 h)⟩
   |exact⟨fun e=>(by cases e),AH h⟩
 |halt x w'=>cases x<;>simp only[Oper.upon,Oper.uponIn]at h⊢<;>exact h
def kL (ops:Array Oper):Bool:=ops.all fun o=>match o.op with| .defer _=>false|_=>true
theorem zX {ops:Array Oper} (h:kL ops=true) {i:Nat} {o:Oper} (ho:ops[i]? =some o):∀c,o.op≠ .defer c:=by
 intro c hc;unfold kL at h;rw[Array.all_eq_true']at h;have:=h o (Array.mem_of_getElem? ho)
 rw[hc]at this;cases this
theorem fD {n l:Nat} {P:Program} {ops:Array Oper} {Q:Exit→Act→World→Prop} (hd:kL ops=true) (hL:¬LetsOut Q) {i:Nat} {K:Act→World→Prop} {a:Act} {w:World} (h:wpOp P ops Q i K a w):wpOpIn (Fence.wide.inRound l) n P ops Q i K a w:=by
 unfold wpOp at h;unfold wpOpIn;split
 ·rename_i ho;simp only[ho]at h;exact h
 ·rename_i o ho;simp only[ho]at h;split
  ·rename_i hw;simp only[hw,if_true]at h;rcases h with h|h
   ·exact zZ (zX hd ho) h
   ·exact absurd h.2 hL
  ·rename_i hw;simp only[hw]at h;exact⟨fun _ _=>trivial,h⟩
theorem tC {n l:Nat} {P:Program} {md:Region.Mode} {ops:Array Oper} {Q:Exit→Act→World→Prop} (hd:kL ops=true) (hL:¬LetsOut Q):∀(fuel:Nat) (li:Array Bool) (a:Act) (w:World),wpAny P md ops Q fuel li a w→wpAnyIn (Fence.wide.inRound l) n P md ops Q fuel li a w
 |0,_,_,_,h=>h
 |fuel+1,li,a,w,h=>⟨h.1,fun i hi=>wpOpIn_mono (fun a' w' h'=>tC hd hL fuel _ a' w' h') (fD hd hL (h.2 i hi))⟩
theorem vZ {n l id:Nat} {P:Program} {ops:Array Oper} {Q:Exit→Act→World→Prop} {a:Act} {w:World} (hm:P.follows .mixedOrders=true) (hd:kL ops=true) (hL:¬LetsOut Q) (h:wpAny P .any ops Q ops.size (Array.replicate ops.size false) a w.drew):(Code.region id ops true).wpIn (Fence.wide.inRound l) n P Q a w:=
 wpIn_region_any hm (tC hd hL _ _ _ _ h)
theorem oY {n l id:Nat} {P:Program} {ops:Array Oper} {Q:Exit→Act→World→Prop} {I:Array Bool→Act→World→Prop} {a:Act} {w:World} (hm:P.follows .mixedOrders=true) (hd:kL ops=true) (hL:¬LetsOut Q) (h0:I (Array.replicate ops.size false) a w.drew) (hs:∀l a w,I l a w→∀i∈Region.ready .any ops l,wpOp P ops Q i (I (l.setIfInBounds i true)) a w) (he:∀l a w,I l a w→Region.ready .any ops l=[]→Q .normal a w):(Code.region id ops true).wpIn (Fence.wide.inRound l) n P Q a w:=
 vZ hm hd hL (uT hs he ops.size _ a _ (by rw[jU];exact Nat.le_refl _) h0)
attribute [local go_sem] Oper.semAt_some
def cellsK (W W':World):Prop:=W.heap.size≤W'.heap.size∧∀(k:Nat) (o:Obj),W.heap[k]? =some o→o.isCells=true→W'.heap[k]? =some o
theorem pF (W:World):cellsK W W:=⟨Nat.le_refl _,fun _ _ h _=>h⟩
theorem bF {A B C:World} (h:cellsK A B) (k:cellsK B C):cellsK A C:=⟨jW h.1 k.1,fun i o hi ho=>k.2 i o (h.2 i o hi ho) ho⟩
theorem lF {w:World} (W:World) (l:Nat) (o o':Obj) (_:w.heap.size≤l) (h:W.heap[l]? =some o) (hc:o.isCells=false) (_:o.isWalk=false):cellsK W (W.putObj l o'):=
 ⟨by rw[World.putObj_size];exact Nat.le_refl _,fun k o2 hk hc2=>(World.putObj_heap_other (fun e=>by subst e;rw[h]at hk;cases hk;rw[hc]at hc2;cases hc2)).trans hk⟩
theorem bD (W:World) (o:Obj):cellsK W (W.alloc o):=⟨by simp,fun k o2 hk _=>(Below.heap_alloc W o k (Array.getElem?_eq_some_iff.1 hk).1).trans hk⟩
theorem pE (W:World):cellsK W W.drew:=⟨Nat.le_refl _,fun _ _ h _=>h⟩
theorem kC {W W':World} {row:Option Nat} (hg:W.grownBy W' row) (hr:∀k,row=some k→∀o,W.heap[k]? =some o→o.isCells=false):cellsK W W':=
 ⟨hg.size,fun k o hk hc=>(hg.block k (Array.getElem?_eq_some_iff.1 hk).1 (fun e=>by have:=hr k e.symm o hk;rw[this]at hc;cases hc)).trans hk⟩
theorem bH {W W':World} {B:Nat} {t:TypeId} {v:Value} (h:Boxed W B t v) (hk:cellsK W W'):Boxed W' B t v:=hk.2 B _ h rfl
theorem NS (w:World):w.grownBy w.drew none:=⟨rfl,rfl,rfl,Nat.le_refl _,fun _ _ _=>rfl⟩
abbrev TK (lim:Nat):Type:={p:Int×Int // 0≤p.1∧p.1≤(lim:Int)∧0≤p.2∧p.2≤100}
def DC {lim:Nat} (x:TK lim):Array Value:=#[.int .i64 x.1.1,.int .i64 x.1.2]
def wy (s t k:Int):Int:=iF (dC s k) (cU t k)
theorem mL (a b:Int):0≤iF a b∧iF a b≤100:=by unfold iF;split<;>omega
def oF (lim:Nat) (s t:Int) (k:Nat):TK lim:=⟨((if k≤lim then(k:Int)else 0),wy s t k),by
 have:=mL (dC s k) (cU t k);refine⟨?_,?_,this.1,this.2⟩
 ·show 0≤(if k≤lim then(k:Int)else 0);split<;>omega
 ·show(if k≤lim then(k:Int)else 0)≤_
  split<;>omega⟩
def jV (lim:Nat) (s t:Int) (k:Nat):List (TK lim):=(List.range k).map (oF lim s t)
theorem sH (lim:Nat) (s t:Int) (k:Nat):jV lim s t k++[oF lim s t k]=jV lim s t (k+1):=by simp[jV,List.range_succ]
theorem EJ (lim:Nat) (s t:Int) (k:Nat):(jV lim s t k).length=k:=by simp[jV]
theorem QF {n:Nat} (hn:1≤n) (l B1 B2:Nat) (s t:Int) (lim:Nat) (s0:0≤s) (s1:s≤15) (t0:0≤t) (t1:t≤15) (hl:(lim:Int)=min s t) (J Jx:List (TK lim)→World→Prop) (hJd:∀pre W,J pre W→J pre W.drew) (hY:∀pre x W,J pre W→pre.length<lim+1→YieldAt Fence.wide (n-1) Tryz.prog l (DC x) W fun e W'=>(e= .returned (.bool true)∧J (pre++[x]) W'∧cellsK W W')∨(e= .returned (.bool false)∧Jx (pre++[x]) W')) (W:World) (hb1:Boxed W B1 3 (.int .i64 s)) (hb2:Boxed W B2 3 (.int .i64 t)) (h0:J [] W):CallsIn Fence.wide n Tryz.prog 189 #[.func (.yield l) #[] #[],.pointer (some ⟨B1,0,none⟩),.pointer (some ⟨B2,0,none⟩)] W fun e W'=>(∃v,e= .returned v)∧((∃xs,xs=jV lim s t (lim+1)∧J xs W')∨(∃pre,True∧Jx pre W')):=by
 refine callsIn_of_wp Tryz.func189 rfl trivial ?_ rfl;simp only[Tryz.ntmps189,List.size_toArray,List.length_cons,List.length_nil,Nat.reduceAdd,Nat.reduceSub,Array.replicate_succ,Array.replicate_zero,List.push_toArray,List.append_toArray,List.nil_append,List.cons_append];have c1:=hb1.cell
 have c2:=hb2.cell
 gi_wp2
 all_goals
  gi_loopw [10] (fun v wr=>∃k:Nat,k≤lim+1∧v= .int .i64 (k:Int)∧J (jV lim s t k) wr∧Boxed wr B1 3 (.int .i64 s)∧Boxed wr B2 3 (.int .i64 t)) (fun v _=>(lim+1)-(RowKit.intOf v).toNat)
  case atStart=>
   exact⟨0,gO _,rfl,h0,hb1,hb2⟩
  case round=>
   obtain⟨k,hk,rfl,hJ,b1,b2⟩:=hrel;have c1:=b1.cell
   have c2:=b2.cell;by_cases hlt:k≤lim
   ·have hk1:(k:Int)≤s:=by omega
    have hk2:(k:Int)≤t:=by omega
    have hYk:=hY (jV lim s t k) (oF lim s t k) _ (hJd _ _ hJ) (by rw[EJ];omega);rw[sH]at hYk;have ek:DC (oF lim s t k)=#[.int .i64 (k:Int),.int .i64 (wy s t k)]:=by simp[DC,oF,hlt]
    rw[ek]at hYk;have hw:iF (dC s k) (cU t k)=wy s t k:=rfl
    obtain⟨fn,tmps,assign,body,hy,hRd⟩:=hYk
    gi_wp2_with fail
    refine(wpIn_wide (n:=n)).2 ?_
    go_region_with (first
     |(go_at_call 190;refine(KW _ _ _).mono ?_;rintro e w' ⟨rfl,hw'⟩;obtain rfl:=hw'.symm;clear hw')
     |(go_at_call 178;refine(NT _ _ _).mono ?_;rintro e w' ⟨rfl,hw'⟩;obtain rfl:=hw'.symm;clear hw')
     |(go_at_call 177;refine(MH _ _ _).mono ?_;rw[hw];rintro e w' ⟨rfl,hw'⟩;obtain rfl:=hw'.symm;clear hw'))
    all_goals
     gi_wp2
     refine hRd.mono ?_;rintro e W3 (⟨rfl,hJ3,hk3⟩|⟨rfl,hJx3⟩)
     ·gi_wp2
      go_roundw;case rel=>exact⟨k+1,by omega,by go_num,hJ3,bH (W:=wr.drew) b1 hk3,bH (W:=wr.drew) b2 hk3⟩
      case measure=>simp[RowKit.intOf];omega
     ·gi_wp2
      refine bC (results_none rfl _ _ _) rfl ?_;exact⟨⟨_,rfl⟩,.inr ⟨_,trivial,hJx3⟩⟩
   ·have hk3:k=lim+1:=by omega
    subst hk3
    gi_wp2
    go_end0
    exact⟨⟨_,rfl⟩,.inl ⟨_,rfl,hJ⟩⟩
theorem sC {n:Nat} (hn:1≤n) (B1 B2:Nat) (s t:Int) (lim:Nat) (s0:0≤s) (s1:s≤15) (t0:0≤t) (t1:t≤15) (hl:(lim:Int)=min s t) (w:World) (hb1:Boxed w B1 3 (.int .i64 s)) (hb2:Boxed w B2 3 (.int .i64 t)):SeqStopsK Fence.wide n Tryz.prog 189 #[.pointer (some ⟨B1,0,none⟩),.pointer (some ⟨B2,0,none⟩)] DC cellsK (fun xs=>xs=jV lim s t (lim+1)) (fun _=>True) (lim+1) w:=fun l J Jx W hW hJ _ hY h0=>
 QF hn l B1 B2 s t lim s0 s1 t0 t1 hl J Jx (fun pre W h=>hJ pre W W.drew none h (NS W) (fun r e=>by cases e)) hY W ((hW.block B1 hb1.lt).trans hb1) ((hW.block B2 hb2.lt).trans hb2) h0
theorem JQ {F:Fence} {n:Nat} (h7:F.fn 171) (hro:F.round=none) (s t:Int) (w:World):CallsIn F n Tryz.prog 171 #[.int .i64 s,.int .i64 t] w fun e w'=>e= .returned (.func (.func 189) #[] #[.pointer (some ⟨w.heap.size,0,none⟩),.pointer (some ⟨w.heap.size+1,0,none⟩)])∧w'=(w.alloc (.cells #[.int .i64 s] 3)).alloc (.cells #[.int .i64 t] 3):=by
 refine callsIn_of_wp Tryz.func171 rfl h7 ?_ hro;simp only[Tryz.ntmps171,List.size_toArray,List.length_cons,List.length_nil,Nat.reduceAdd,Nat.reduceSub,Array.replicate_succ,Array.replicate_zero,List.push_toArray,List.append_toArray,List.nil_append,List.cons_append]
 gi_wp2
 go_ret;exact⟨rfl,rfl⟩
end Go.Proofs.YtkcmamepoplcdaaGreatDoor
namespace Go.Proofs.YtkcmamepoplcdaaGreatDoor
open Go.RowKit
set_option linter.unusedVariables false
theorem DX {m m':Nat} {P:Program} {l:Nat} {f:FuncId} {tmps:Array Value} {assign body:Code} {w:World} {R:Ending→World→Prop} (h:RoundIn Fence.wide m P l f tmps assign body w R):RoundIn Fence.wide m' P l f tmps assign body w R:=⟨h.1,fun c cs _=>h.2 c cs (room_wide _)⟩
theorem kS {W W':World} {row:Option Nat} {B:Nat} (hg:W.grownBy W' row) (hr:∀r,row=some r→B≤r) {k:Nat} {o:Obj} (hk:W.heap[k]? =some o) (hkB:k<B):W'.heap[k]? =some o:=
 (hg.block k (Array.getElem?_eq_some_iff.1 hk).1 (fun e=>by have:=hr k e.symm;omega)).trans hk
theorem nP {B B':Nat} {W W':World} (h:KeepsFrom B W W') (hB:B≤B'):KeepsFrom B' W W':=⟨h.size,fun k o hk=>h.same k o (jW hB hk)⟩
def OH {α:Type} (P:Program) (g:Nat) (lb:Array Value) (encs:α→Array Value) (xs:List α) (w:World):Prop:=
 ∀(l:Nat) (J:List α→World→Prop) (W:World),Below w.heap.size w W→OwnFrom W.heap.size J→
  (∀pre x W1,J pre W1→YieldAt Fence.wide 0 P l (encs x) W1 fun e W'=>e= .returned (.bool true)∧J (pre++[x]) W'∧cellsK W1 W'∧KeepsFrom W.heap.size W1 W')→
  J [] W→Calls P g (#[.func (.yield l) #[] #[]]++lb) W fun e W'=>(∃v,e= .returned v)∧J xs W'
theorem PX {α:Type} {P:Program} {n:Nat} {g:Operand} {ps:Array Tmp} {assign body:Code} {Q:Exit→Act→World→Prop} {a:Act} {w:World} (h1:1≤n) {gf:Nat} {lb:Array Value} (hg:a.eval g= .func (.func gf) #[] lb) (eg:∀args w,(callFunc gf args).run P w= .ok (.enter gf args) w) {encs:α→Array Value} {xs:List α} {w0:World} (hseq:OH P gf lb encs xs w0) (hb0:Below w0.heap.size w0 w) (hps:∀x,(encs x).size=ps.size) (I:List α→World→Prop) (hI:OwnFrom w.heap.size I) (h0:I [] w) (Ax:α→Act→World→Prop) (hAx:∀x a',OwnFrom w.heap.size (fun(_:Unit) W=>Ax x a' W)) (hassign:∀(l:Nat) (pre:List α) (x:α) (W:World) (K:Act→World→Prop),I pre W→(∀a' W',KeepsFrom w.heap.size W W'→cellsK W W'→I pre W'→Ax x a' W'→K a' W')→assign.wpIn (Fence.wide.inRound l) 0 P (Exit.then K (fun _ _ _=>False)) {tmps:=(ps.zip (encs x)).foldl (fun t (p,v)=>t.setIfInBounds p v) a.tmps,defers:=[]} W) (hbody:∀(l:Nat) (pre:List α) (x:α) (a':Act) (W:World),I pre W→Ax x a' W→body.wpIn (Fence.wide.inRound l) 0 P (fun e _ W'=>e= .normal∧KeepsFrom w.heap.size W W'∧cellsK W W'∧I (pre++[x]) W') a' W) (hdone:∀(D:Nat) (W:World),w.heap.size≤D→I xs W→W.heap[D]? =some (.deferred (some []))→Q .normal {a with defers:={target:=.collected D,args:=#[]}::a.defers} W):(Code.rangeFunc g ps assign body).wpIn Fence.wide n P Q a w:=by
 refine wpIn_rangeFunc ?_;intro fn hfn;obtain⟨rec,hrec⟩:∃rec:LoopState→Option Code→Loop,rec=fun st pe=>{state:=st,pending:=pe,fn,tmps:=a.tmps,params:=ps,assign,body,defers:=w.heap.size}:=⟨_,rfl⟩
 obtain⟨W1,hW1⟩:∃W1,(w.alloc (.deferred (some []))).alloc (.loop (rec .ready none))=W1:=⟨_,rfl⟩
 have hs1:W1.heap.size=w.heap.size+2:=by rw[←hW1];simp
 have hL1:W1.heap[w.heap.size+1]? =some (.loop (rec .ready none)):=by
  rw[←hW1];have:=World.alloc_heap_new (w.alloc (.deferred (some []))) (.loop (rec .ready none))
  rwa[World.size_alloc]at this
 have hK1:W1.heap[w.heap.size]? =some (.deferred (some [])):=by rw[←hW1];exact(Below.heap_alloc _ _ _ (by simp)).trans (World.alloc_heap_new w _)
 have hI1:I [] W1:=by rw[←hW1];exact hI.alloc _ (hI.alloc _ h0)
 have hb1:Below w0.heap.size w0 W1:=by rw[←hW1];exact hb0.trans ((((aD _ w).alloc (Nat.le_refl _) _).alloc (by simp) _).mono hb0.size)
 refine⟨w.heap.size+1,[{target:=.collected w.heap.size,args:=#[]}],W1,{target:=.fn (.func gf) lb,args:=#[.func (.yield (w.heap.size+1)) #[] #[]]},W1,gf,
  #[.func (.yield (w.heap.size+1)) #[] #[]]++lb,W1,?_,?_,?_,?_,fun _=>h1,?_⟩
 ·rw[←hW1,hrec];exact run_enterLoop_outer _ _ _ _ _
 ·simp only[resolve,hg];simp[go_sem]
 ·intro f' _;exact trivial
 ·simp[invoke,go_sem,eg]
 ·refine callsIn_wide.2 ((hseq (w.heap.size+1) (fun pre W=>I pre W∧W.heap[w.heap.size+1]? =some (.loop (rec .ready none))∧W.heap[w.heap.size]? =some (.deferred (some []))) W1 hb1
   (fun s A B row hs hg' hr=>⟨hI s A B row hs.1 hg' (fun r e=>⟨by have:=(hr r e).1;omega,(hr r e).2⟩),kS hg' (B:=W1.heap.size) (fun r e=>(hr r e).1) hs.2.1 (by omega),kS hg' (B:=W1.heap.size) (fun r e=>(hr r e).1) hs.2.2 (by omega)⟩)
   ?_ ⟨hI1,hL1,hK1⟩).mono ?_)
  ·rintro pre x W ⟨hi,hl,hk⟩;have hy:=run_yield (P:=P) (args:=encs x) hl (by rw[hrec];exact hps x)
   rw[hrec]at hy;refine⟨fn,_,assign,body,hy,roundIn_of_wpIn hfn (hassign _ pre x W _ hi ?_)⟩;clear hy;intro a' Wa hkfa hkpa hia hax;have hla:=hkfa.same _ _ (by omega) hl rfl
   have hka:=hkfa.same _ _ (Nat.le_refl _) hk rfl;have hlt:w.heap.size+1<Wa.heap.size:=(Array.getElem?_eq_some_iff.1 hla).1
   refine⟨_,run_beginRound hla (by rw[hrec]),?_⟩;have hl2:(Wa.putObj (w.heap.size+1) (.loop {rec .ready none with state:=.busy})).heap[w.heap.size+1]? =some (.loop {rec .ready none with state:=.busy}):=World.putObj_heap_same hlt
   have hk2:(Wa.putObj (w.heap.size+1) (.loop {rec .ready none with state:=.busy})).heap[w.heap.size]? =some (.deferred (some [])):=(World.putObj_heap_other (by omega)).trans hka
   have hw2:cellsK Wa (Wa.putObj (w.heap.size+1) (.loop {rec .ready none with state:=.busy})):=lF (w:=w) _ _ _ _ (by omega) hla rfl rfl;refine wpIn_mono (hbody _ pre x a' _ (hI.putObj _ hia (by omega) hla rfl) ((hAx x a').putObj (s:=()) _ hax (by omega) hla rfl)) ?_;rintro e a3 W3 ⟨rfl,hk3,hkp3,hi3⟩;have hl3:=hk3.same _ _ (by omega) hl2 rfl
   have hr:=run_endRound (P:=P) none hl3;refine⟨_,_,hr,rfl,⟨hI.putObj _ hi3 (by omega) hl3 rfl,?_,(World.putObj_heap_other (by omega)).trans (hk3.same _ _ (Nat.le_refl _) hk2 rfl)⟩,bF hkpa (bF (bF hw2 hkp3) (lF (w:=w) _ _ _ _ (by omega) hl3 rfl rfl)),(nP hkfa (by omega)).trans ((KeepsFrom.of_grownBy (grownBy_putObj' Wa (w.heap.size+1) (.loop {rec .ready none with state:=.busy})) (fun j e=>by cases e;omega)).trans ((nP hk3 (by omega)).trans (KeepsFrom.of_grownBy (grownBy_putObj' W3 (w.heap.size+1) _) (fun j e=>by cases e;omega))))⟩;rw[hrec];exact World.putObj_heap_same (Array.getElem?_eq_some_iff.1 hl3).1
  ·rintro e W2 ⟨⟨v,rfl⟩,hi,hl,hk⟩;refine⟨none,_,by have:=run_endLoop (P:=P) hl (by rw[hrec];simp);rw[hrec]at this;exact this,hdone _ _ (Nat.le_refl _) (hI.putObj _ hi (by omega) hl rfl) ((World.putObj_heap_other (by omega)).trans hk)⟩
open Go.RowKit Go.Sort
structure Gr (w u:World):Prop where
 below:Below w.heap.size w u
 drawn:w.drawn≤u.drawn
theorem Gr.refl (w:World):Gr w w:=⟨aD _ _,Nat.le_refl _⟩
theorem Gr.trans {a b c:World} (h:Gr a b) (k:Gr b c):Gr a c:=⟨h.below.trans (k.below.mono h.below.size),jW h.drawn k.drawn⟩
theorem Gr.alloc (w:World) (o:Obj):Gr w (w.alloc o):=⟨aF w o,by simp⟩
theorem Gr.drew (w:World):Gr w w.drew:=⟨(aD _ _).drew,by simp⟩
theorem Gr.form {w u:World} (h:Gr w u):∃q os,u=grow (w.drewN q) os:=by
 refine⟨u.drawn-w.drawn,u.heap.extract w.heap.size u.heap.size,?_⟩;obtain⟨⟨h1,h2,h3,h4,h5⟩,h6⟩:=h;cases u with
 |mk heap tape drawn os output=>
  simp only at h1 h2 h3 h4 h5 h6;subst h1 h2 h3;have hh:w.heap++heap.extract w.heap.size heap.size=heap:=by
   apply Array.ext_getElem?;intro i;by_cases hi:i<w.heap.size
   ·rw[Array.getElem?_append_left hi,h5 i hi]
   ·rw[Array.getElem?_append_right (by omega),Array.getElem?_extract];split
    ·congr 1;omega
    ·exact(Array.getElem?_eq_none (by omega)).symm
  have hd:w.drawn+(drawn-w.drawn)=drawn:=by omega
  simp only[grow,World.drewN];rw[hh,hd]
def iM (w:World):Type:=Subtype (fun u:World=>Gr w u)
theorem iM.there (w:World):Nonempty (iM w):=⟨⟨w,Gr.refl _⟩⟩
theorem lO {P:Program} {id:Nat} {Q:Exit→Act→World→Prop} {a:Act} {w:World} {l:List Oper} (hm:P.follows .mixedOrders=true) (hB:Region.lexB .any l.toArray=true) (h:wpQuiet P l.toArray (fun u=>∃x:iM w,u=x.1) (fun a'=>∀w',(∃x:iM w,w'=x.1)→Q .normal a' w') l a):(Code.region id l.toArray true).wp P Q a w:=
 wp_region_quiet (C:=fun u=>∃x:iM w,u=x.1) hm hB ⟨⟨_,Gr.drew _⟩,rfl⟩ (by simpa using h)
theorem DD {P:Program} {f:FuncId} {args:Array Value} {w:World} {x:iM w} {v:Value} (h:Calls P f args x.1 fun e w'=>e= .returned v∧w'=x.1):Calls P f args x.1 fun e w''=>e= .returned v∧∃y:iM w,w''=y.1:=
 h.mono fun _ _ ⟨he,hm⟩=>⟨he,x,hm⟩
theorem kG {P:Program} {f:FuncId} {args:Array Value} {w:World} {x:iM w} {v:Value} (h:Calls P f args x.1 fun e w'=>e= .returned v∧Gr x.1 w'):Calls P f args x.1 fun e w''=>e= .returned v∧∃y:iM w,w''=y.1:=
 h.mono fun _ w' ⟨he,hm⟩=>⟨he,⟨w',x.2.trans hm⟩,rfl⟩
theorem nE {w:World} {t:TypeId} (cs:Array Value) (k:Nat) (v:Value) (h:cs[k]? =some v):∀u:iM (w.alloc (.cells cs t)),u.1.cell? ⟨w.heap.size,k,none⟩=some v:=fun u=>by
 have:=nG (w:=w) (t:=t) cs k v h ⟨u.1,u.2.below⟩;exact this
theorem LB (x y d e:Int) (w:World) (h:M.ok ⟨x,y,d,e⟩=true):Calls Tryz.prog 125 #[.agg #[.int .i64 x,.int .i64 y,.int .i64 d,.int .i64 e]] w fun r w'=>r= .returned (.int .i64 (x+y+d+e))∧Gr w w':=by obtain⟨x1,x2,y1,y2,d1,d2,e1,e2⟩:=M.ok_iff.1 h;simp only at x1 x2 y1 y2 d1 d2 e1 e2;clear h;go_enter Tryz.func125,Tryz.ntmps125;go_wp2;go_ret;exact⟨rfl,Gr.alloc w _⟩
theorem IX (x y d e:Int) (w:World) (h:M.ok ⟨x,y,d,e⟩=true):Calls Tryz.prog 126 #[.agg #[.int .i64 x,.int .i64 y,.int .i64 d,.int .i64 e]] w fun r w'=>r= .returned (.int .i64 (kT ⟨x,y,d,e⟩))∧Gr w w':=by obtain⟨x1,x2,y1,y2,d1,d2,e1,e2⟩:=M.ok_iff.1 h;simp only at x1 x2 y1 y2 d1 d2 e1 e2;clear h;simp only[kT];go_enter Tryz.func126,Tryz.ntmps126;go_wp2;go_ret;exact⟨rfl,Gr.alloc w _⟩
theorem yW (x y d e:Int) (w:World) (h:M.ok ⟨x,y,d,e⟩=true):Calls Tryz.prog 88 #[.agg #[.int .i64 x,.int .i64 y,.int .i64 d,.int .i64 e]] w fun r w'=>r= .returned (.int .i64 (eF ⟨x,y,d,e⟩))∧Gr w w':=by
 obtain⟨x1,x2,y1,y2,d1,d2,e1,e2⟩:=M.ok_iff.1 h;simp only at x1 x2 y1 y2 d1 d2 e1 e2;have HK:=aA h
 have k1:0≤kT ⟨x,y,d,e⟩:=by simp only[kT];omega
 have k2:kT ⟨x,y,d,e⟩≤65535:=by simp only[kT];omega
 have r1:eF ⟨x,y,d,e⟩=(x+y+d+e)*65536+kT ⟨x,y,d,e⟩:=rfl;rw[r1];clear h r1;go_enter Tryz.func88,Tryz.ntmps88;go_wp2_with fail;have B1:=aA (Gr.alloc w (.cells #[.int .i64 x,.int .i64 y,.int .i64 d,.int .i64 e] 77))
 have ne:=iM.there (w.alloc (.cells #[.int .i64 x,.int .i64 y,.int .i64 d,.int .i64 e] 77));have s0:=nE (w:=w) (t:=77) #[.int .i64 x,.int .i64 y,.int .i64 d,.int .i64 e] 0 _ rfl
 have s1:=nE (w:=w) (t:=77) #[.int .i64 x,.int .i64 y,.int .i64 d,.int .i64 e] 1 _ rfl;have s2:=nE (w:=w) (t:=77) #[.int .i64 x,.int .i64 y,.int .i64 d,.int .i64 e] 2 _ rfl
 have s3:=nE (w:=w) (t:=77) #[.int .i64 x,.int .i64 y,.int .i64 d,.int .i64 e] 3 _ rfl;refine lO (by kernel_rfl) (by kernel_rfl) ?_;repeat(go_big_quiet_step (first|(go_at_call 125;exact kG (LB _ _ _ _ _ HK.out))|(go_at_call 126;exact kG (IX _ _ _ _ _ HK.out))))
 refine wpQuiet_nil ?_;rintro _ ⟨u,rfl⟩;go_wp2;go_ret;exact⟨rfl,B1.out.trans u.2⟩
end Go.Proofs.YtkcmamepoplcdaaGreatDoor
