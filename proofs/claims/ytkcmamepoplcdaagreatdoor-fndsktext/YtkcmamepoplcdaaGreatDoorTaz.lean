/-
  The draws of FnDskText: some line, and some text of at most a thousand bytes.
-/
import Derived.Test.YtkcmamepoplcdaaGreatDoorTan
import Derived.Test.YtkcmamepoplcdaaGreatDoorTay
import Derived.RangeFuncNested
import Derived.RangeFuncLeaves
import Derived.Shelf.Strings.Search3
import Derived.OwnWalkIn
import Derived.TacticsInMore
import Derived.LoopNIn
import Derived.LoopIn
import Derived.Shelf.Strings.Cut
import Derived.Shelf.Strings.Split
import Derived.Shelf.LaysM
import Derived.Maps.OwnSet
import Derived.Maps.OwnOps
import Derived.Maps.Views
import Derived.StringKeys
set_option maxHeartbeats 4000000
set_option maxRecDepth 100000
namespace Go.Proofs.YtkcmamepoplcdaaGreatDoor
open Go.Shelf Go.RowKit
set_option linter.unusedVariables false
set_option linter.unusedSimpArgs false
theorem sH (k to a b:Int) (n:Nat) (f:Nat→T):(eL k to a b n f).length≤400:=by
 unfold eL;split
 ·rename_i h;exact h.2
 ·simp
theorem V5.beside {w w':World} {b B:Nat} {x0 x1 x2 x3 x4:Value} (h:V5 w b x0 x1 x2 x3 x4) (hs:aH B w w') (hn:b≠B):V5 w' b x0 x1 x2 x3 x4:=by have e:=hs.block b h.lt hn;exact⟨⟨(kA (a:=⟨b,0,none⟩) e).trans h.1.1,(kA (a:=⟨b,1,none⟩) e).trans h.1.2.1,(kA (a:=⟨b,2,none⟩) e).trans h.1.2.2.1,(kA (a:=⟨b,3,none⟩) e).trans h.1.2.2.2.1,(kA (a:=⟨b,4,none⟩) e).trans h.1.2.2.2.2⟩,fun j=>(World.frozen?_of_block (a:=⟨b,j,none⟩) e).trans (h.2 j)⟩
theorem xF {w w':World} {B p:Nat} (h:dL w B p) (hb:Below w.heap.size w w'):dL w' B p:=by
 have hlt:=h.lt;obtain⟨hc1,hf,a,len,cap,hc0,hl,h0⟩:=h;have he:=hb.block B hlt
 refine⟨(kA (w:=w) (a:=⟨B,1,none⟩) he).trans hc1,(World.frozen?_of_block (w:=w) (a:=⟨B,1,none⟩) he).trans hf,a,len,cap,(kA (w:=w) (a:=⟨B,0,none⟩) he).trans hc0,hl,?_⟩;rcases h0 with h0|⟨bb,off,z,rfl,hbb,hz,z0,z1⟩
 ·exact .inl h0
 ·exact .inr ⟨bb,off,z,rfl,hbb,fun i hi=>(kA (w:=w) (a:=⟨bb,off+i,none⟩) (hb.block bb (by omega))).trans (hz i hi),z0,z1⟩
theorem jV {w:World} {a:Option Addr} {n cap b k:Nat} {f:Nat→T} {v:Value} (h:Rd w a n cap f) (hn:n=0∨∀g off,a=some ⟨g,off,none⟩→g≠b):Rd (w.setCell ⟨b,k,none⟩ v) a n cap f:=by
 obtain⟨h1,h2,h3⟩:=h;refine⟨h1,h2,?_⟩;rcases h3 with h0|⟨g,off,e,hlt,hc⟩
 ·exact .inl h0
 ·rcases hn with h0|hn
  ·exact .inl h0
  ·have hg:=hn g off e;have ne:∀j,(⟨b,k,none⟩:Addr)≠⟨g,j,none⟩:=fun j q=>hg (by cases q;rfl)
   refine .inr ⟨g,off,e,by simpa using hlt,fun i hi=>?_⟩;obtain⟨c0,c1,c2,c3,c4⟩:=hc i hi;exact⟨by rw[World.cell?_setCell_other _ _ _ _ (ne _)];exact c0,by rw[World.cell?_setCell_other _ _ _ _ (ne _)];exact c1,by rw[World.cell?_setCell_other _ _ _ _ (ne _)];exact c2,by rw[World.cell?_setCell_other _ _ _ _ (ne _)];exact c3,by rw[World.cell?_setCell_other _ _ _ _ (ne _)];exact c4⟩
theorem mW (w:World) (a0:Option Addr) (len cap:Nat) (h:uA w a0 len cap):Calls Tryz.prog 20 #[.slice a0 len cap] w fun e w'=>∃(k to a b:Int) (pa:Option Addr) (m c:Nat) (f:Nat→T),e= .returned (.agg #[.int .i64 k,.int .i64 to,.int .i64 a,.int .i64 b,.slice pa m c])∧Rd w' pa m c f∧m≤5∧Below w.heap.size w w':=by
 have hb0:=aG w (.cells #[.int .i64 0,.int .i64 0,.int .i64 0,.int .i64 0,.slice none 0 0] 24);have hV:=aA (V5.box w 24 (.int .i64 0) (.int .i64 0) (.int .i64 0) (.int .i64 0) (.slice none 0 0))
 have s0:=h.below hb0;have hsz:w.heap.size<(w.alloc (.cells #[.int .i64 0,.int .i64 0,.int .i64 0,.int .i64 0,.slice none 0 0] 24)).heap.size:=by simp
 go_enter Tryz.func20,Tryz.ntmps20;go_wp2_with fail;generalize(w.alloc (.cells #[.int .i64 0,.int .i64 0,.int .i64 0,.int .i64 0,.slice none 0 0] 24))=W at hb0 hV s0 hsz⊢;refine(nK _ _ _ _ s0).mono ?_;rintro e w1 ⟨rfl,r1,b1⟩;have hV1:=aA (hV.out.below b1)
 have bz1:=aA (hb0.trans (b1.mono hb0.size));have hs1:=b1.size
 have b1':=aA b1;have r1':=aA r1
 clear h s0 b1 hV hb0 r1;go_wp2_with fail;refine(nE w1 _ _ 3 r1'.out (by omega) (by omega) (by omega)).mono ?_;rintro e w2 ⟨k,to,a,b,pa,m,c,f,q,rfl,hrd,hm,haw,hq,r2,s2⟩;have hV2:=aA (hV1.out.beside s2 (by omega))
 have hR:=aA hrd;have bz2:=aA (s2.below bz1.out (by omega) (by omega))
 have haw2:Hid (m=0∨∀g off,pa=some ⟨g,off,none⟩→g≠w.heap.size):=aA (haw.imp id (fun⟨g,off,e,q⟩ g' off' e'=>by rw[e]at e';cases e';omega));clear hrd haw r2 s2 hV1 bz1 b1' r1';obtain⟨⟨c0,c1,c2,c3,c4⟩,cz⟩:=hV2.out;go_wp2;refine bN (v:=.agg #[.int .i64 k,.int .i64 to,.int .i64 a,.int .i64 b,.slice pa m c]) (by simp[results,Tryz.results20,go_sem, *]) rfl ?_;exact⟨k,to,a,b,pa,m,c,f,rfl,jV (jV (jV (jV (jV hR.out haw2.out) haw2.out) haw2.out) haw2.out) haw2.out,hm,((((bz2.out.setCell (aE _) _).setCell (aE _) _).setCell (aE _) _).setCell (aE _) _).setCell (aE _) _⟩
theorem mV (w:World) (a0:Option Addr) (len cap:Nat) (h:uA w a0 len cap):Calls Tryz.prog 22 #[.slice a0 len cap] w fun e w'=>∃l:List UInt8,e= .returned (.string ⟨l.toArray⟩)∧l.length≤1000∧Below w.heap.size w w':=by
 go_enter Tryz.func22,Tryz.ntmps22;go_wp2_with fail;refine(nK _ _ _ _ h).mono ?_;rintro e w1 ⟨rfl,r1,b1⟩;have hs1:=b1.size
 have r1':=aA r1;have b1':=aA b1
 clear h r1 b1;go_wp2_with fail;refine(nE w1 _ _ 99 r1'.out (by omega) (by omega) (by omega)).mono ?_;rintro e w2 ⟨k,to,a,b,pa,m,c,f,q,rfl,hrd,hm,haw,hq,r2,s2⟩;have hR:=aA hrd
 have r2':=aA r2;have bz2:=aA (s2.below b1'.out (by omega) (by omega))
 have hTX:=aA (eK k to a b pa m c f w2 hrd);have hle:=sH k to a b m f
 obtain⟨S,hS⟩:∃S,eL k to a b m f=S:=⟨_,rfl⟩
 rw[hS]at hTX hle;clear hrd haw r2 s2 r1' b1' hS;go_wp2_with fail;refine hTX.out.mono ?_;rintro e w3 ⟨rfl,hb3⟩;have bz3:=aA (aD bz2.out hb3)
 have r3:=aA (xF r2'.out hb3);have hs3:w.heap.size≤w3.heap.size:=bz3.out.size
 clear hb3 hTX r2' bz2;go_wp2_with fail;refine(qK w3 _ _ S r3.out (by omega) (by omega)).mono ?_;rintro e w4 ⟨l,q4,rfl,hl,hq4,r4,s4⟩;have bz4:=aA (s4.below bz3.out (by omega) (by omega))
 clear r4 s4 r3 bz3;go_wp2;go_ret;exact⟨l,rfl,by omega,bz4.out⟩
end Go.Proofs.YtkcmamepoplcdaaGreatDoor
namespace Go.Proofs.YtkcmamepoplcdaaGreatDoor
open Go.RowKit
set_option linter.unusedVariables false
theorem yV {m m':Nat} {P:Program} {l:Nat} {f:FuncId} {tmps:Array Value} {assign body:Code} {w:World} {R:Ending→World→Prop} (h:RoundIn Fence.wide m P l f tmps assign body w R):RoundIn Fence.wide m' P l f tmps assign body w R:=⟨h.1,fun c cs _=>h.2 c cs (room_wide _)⟩
theorem zO {m:Nat} (m':Nat) {P:Program} {l:Nat} {args:Array Value} {W:World} {R:Ending→World→Prop} (h:YieldAt Fence.wide m P l args W R):YieldAt Fence.wide m' P l args W R:=by obtain⟨fn,tmps,assign,body,hy,hR⟩:=h;exact⟨fn,tmps,assign,body,hy,yV hR⟩
def gG (lo hi:Nat) (A B:World):Prop:=A.heap.size≤B.heap.size∧∀k,lo≤k→k<hi→B.heap[k]? =A.heap[k]?
theorem gG.trans {lo hi:Nat} {A B C:World} (h:gG lo hi A B) (g:gG lo hi B C):gG lo hi A C:=⟨kB h.1 g.1,fun k a b=>(g.2 k a b).trans (h.2 k a b)⟩
theorem gG.put {lo hi l:Nat} (hl:hi≤l) (W:World) (o:Obj):gG lo hi W (W.putObj l o):=⟨by simp,fun k _ h=>World.putObj_heap_other (by omega)⟩
theorem gG.below {lo hi n:Nat} {A B:World} (h:Below n A B) (hn:hi≤n):gG lo hi A B:=⟨h.size,fun k _ hk=>h.block k (by omega)⟩
theorem gG.refl (lo hi:Nat) (A:World):gG lo hi A A:=⟨aE _,fun _ _ _=>rfl⟩
theorem gG.grown {lo hi:Nat} {A B:World} {row:Option Nat} (hg:A.grownBy B row) (hh:hi≤A.heap.size) (hr:∀k,row=some k→k<lo∨hi≤k):gG lo hi A B:=
 ⟨hg.size,fun k a b=>hg.block k (by omega) (fun e=>by have:=hr k e.symm;omega)⟩
def wB {α:Type} (P:Program) (g:Nat) (lb:Array Value) (encs:α→Array Value) (lo hi:Nat) (xs:List α) (w:World):Prop:=
 ∀(l:Nat) (J Jx:List α→World→Prop) (W:World),Below w.heap.size w W→OwnFrom W.heap.size J→(∀pre A k v,lo≤k→k<hi→J pre A→J pre (A.setCell ⟨k,0,none⟩ v))→
  (∀pre x W1,J pre W1→pre++[x]<+:xs→YieldAt Fence.wide 0 P l (encs x) W1 fun e W'=>(e= .returned (.bool true)∧J (pre++[x]) W'∧gG lo hi W1 W')∨(e= .returned (.bool false)∧Jx (pre++[x]) W'))→
  J [] W→Calls P g (#[.func (.yield l) #[] #[]]++lb) W fun e W'=>(∃v,e= .returned v)∧(J xs W'∨∃pre,pre<+:xs∧Jx pre W')
def yM {α:Type} (B lo hi:Nat) (I:List α→World→Prop) (Ix:Code→List α→World→Prop) (xs:List α) (W:World):Exit→Act→World→Prop
 | .normal,_,W'=>KeepsFrom B W W'∧gG lo hi W W'∧I xs W'
 | .ret,_,W'=>KeepsFrom B W W'∧Ix .ret xs W'
 |_,_,_=>False
theorem yW {B:Nat} {W W':World} (h:KeepsFrom B W W') {k:Nat} {o:Obj} (hk:B≤k) (h0:W.heap[k]? =some o) (ho:o.isCells=false):W'.heap[k]? =some o:=h.same k o hk h0 ho
theorem nL {W W':World} {row:Option Nat} {B:Nat} (hg:W.grownBy W' row) (hr:∀r,row=some r→B≤r) {k:Nat} {o:Obj} (hk:W.heap[k]? =some o) (hkB:k<B):W'.heap[k]? =some o:=
 (hg.block k (Array.getElem?_eq_some_iff.1 hk).1 (fun e=>by have:=hr k e.symm;omega)).trans hk
theorem xC {α : Type} {P : Program} {n : Nat} {g : Operand} {ps : Array Tmp} {assign body : Code} {Q : Exit → Act → World → Prop} {a : Act} {w : World} (h1 : 1 ≤ n) {gf : Nat} {lb : Array Value} (hg : a.eval g = .func (.func gf) #[] lb) (eg : ∀ args w, (callFunc gf args).run P w = .ok (.enter gf args) w) {encs : α → Array Value} {lo hi : Nat} {xs : List α} {w0 : World} (hseq : wB P gf lb encs lo hi xs w0) (hb0 : Below w0.heap.size w0 w) (hhi : hi ≤ w.heap.size) (hps : ∀ x, (encs x).size = ps.size) (I : List α → World → Prop) (Ix : Code → List α → World → Prop) (hI : OwnFrom w.heap.size I) (hIb : ∀ pre A k v, lo ≤ k → k < hi → I pre A → I pre (A.setCell ⟨k, 0, none⟩ v)) (hIx : ∀ c, OwnFrom w.heap.size (Ix c)) (h0 : I [] w) (Ax : α → Act → World → Prop) (hAx : ∀ x a', OwnFrom w.heap.size (fun (_ : Unit) W => Ax x a' W)) (hassign : ∀ (l : Nat) (pre : List α) (x : α) (W : World) (K : Act → World → Prop), I pre W → (∀ a' W', KeepsFrom w.heap.size W W' → gG lo hi W W' → I pre W' → Ax x a' W' → K a' W') → assign.wpIn (Fence.wide.inRound l) 0 P (Exit.then K (fun _ _ _ => False)) { tmps := (ps.zip (encs x)).foldl (fun t (p, v) => t.setIfInBounds p v) a.tmps, defers := [] } W) (hbody : ∀ (l : Nat) (pre : List α) (x : α) (a' : Act) (W : World), I pre W → Ax x a' W → pre ++ [x] <+: xs → body.wpIn (Fence.wide.inRound l) 0 P (yM w.heap.size lo hi I Ix (pre ++ [x]) W) a' W) (hdone : ∀ (D : Nat) (W : World), w.heap.size ≤ D → I xs W → W.heap[D]? = some (.deferred (some [])) → Q .normal { a with defers := { target := .collected D, args := #[] } :: a.defers } W) (hstop : ∀ (D : Nat) (c : Code) (pre : List α) (W : World), w.heap.size ≤ D → pre <+: xs → Ix c pre W → W.heap[D]? = some (.deferred (some [])) → c.wpIn Fence.wide n P Q { a with defers := { target := .collected D, args := #[] } :: a.defers } W) : (Code.rangeFunc g ps assign body).wpIn Fence.wide n P Q a w := by
  refine wpIn_rangeFunc ?_
  intro fn hfn
  obtain⟨rec,hrec⟩:∃rec:LoopState→Option Code→Loop,rec=fun st pe=>{state:=st,pending:=pe,fn,tmps:=a.tmps,params:=ps,assign,body,defers:=w.heap.size}:=⟨_,rfl⟩
  obtain⟨W1,hW1⟩:∃W1,(w.alloc (.deferred (some []))).alloc (.loop (rec .ready none))=W1:=⟨_,rfl⟩
  have hs1:W1.heap.size=w.heap.size+2:=by rw[←hW1];simp
  have hL1:W1.heap[w.heap.size+1]? =some (.loop (rec .ready none)):=by
    rw[←hW1]
    have:=World.alloc_heap_new (w.alloc (.deferred (some []))) (.loop (rec .ready none))
    rwa[World.size_alloc]at this
  have hK1:W1.heap[w.heap.size]? =some (.deferred (some [])):=by
    rw[←hW1]
    exact(Below.heap_alloc _ _ _ (by simp)).trans (World.alloc_heap_new w _)
  have hI1:I [] W1:=by rw[←hW1];exact hI.alloc _ (hI.alloc _ h0)
  have hb1:Below w0.heap.size w0 W1:=by
    rw[←hW1]
    exact hb0.trans ((((aC _ w).alloc (aE _) _).alloc (by simp) _).mono hb0.size)
  refine⟨w.heap.size+1,[{target:=.collected w.heap.size,args:=#[]}],W1,{target:=.fn (.func gf) lb,args:=#[.func (.yield (w.heap.size+1)) #[] #[]]},W1,gf,
    #[.func (.yield (w.heap.size+1)) #[] #[]]++lb,W1,?_,?_,?_,?_,fun _=>h1,?_⟩
  · rw[←hW1,hrec];exact run_enterLoop_outer _ _ _ _ _
  · simp only[resolve,hg]
    simp[go_sem]
  · intro f' _;exact trivial
  · simp[invoke,go_sem,eg]
  · refine callsIn_wide.2 ((hseq (w.heap.size+1)
      (fun pre W=>I pre W∧W.heap[w.heap.size+1]? =some (.loop (rec .ready none))∧W.heap[w.heap.size]? =some (.deferred (some [])))
      (fun pre W=>∃c,Ix c pre W∧W.heap[w.heap.size+1]? =some (.loop (rec .done (some c)))∧W.heap[w.heap.size]? =some (.deferred (some []))) W1 hb1
      (fun s A B row hs hg' hr=>⟨hI s A B row hs.1 hg' (fun r e=>⟨by have:=(hr r e).1;omega,(hr r e).2⟩),nL hg' (B:=W1.heap.size) (fun r e=>(hr r e).1) hs.2.1 (by omega),nL hg' (B:=W1.heap.size) (fun r e=>(hr r e).1) hs.2.2 (by omega)⟩)
      (fun pre A k v a1 a2 hs=>⟨hIb pre A k v a1 a2 hs.1,(Below.heap_setCell _ _ _ _ (by simp;omega)).trans hs.2.1,(Below.heap_setCell _ _ _ _ (by simp;omega)).trans hs.2.2⟩)
      ?_ ⟨hI1,hL1,hK1⟩).mono ?_)
    · rintro pre x W ⟨hi',hl,hk⟩ hpre
      have hy:=run_yield (P:=P) (args:=encs x) hl (by rw[hrec];exact hps x)
      rw[hrec]at hy
      refine⟨fn,_,assign,body,hy,roundIn_of_wpIn hfn (hassign _ pre x W _ hi' ?_)⟩
      clear hy
      intro a' Wa hkfa hkpa hia hax
      have hla:=yW hkfa (by omega) hl rfl
      have hka:=yW hkfa (aE _) hk rfl
      have hlt:w.heap.size+1<Wa.heap.size:=(Array.getElem?_eq_some_iff.1 hla).1
      refine⟨_,run_beginRound hla (by rw[hrec]),?_⟩
      have hl2:(Wa.putObj (w.heap.size+1) (.loop {rec .ready none with state:=.busy})).heap[w.heap.size+1]? =some (.loop {rec .ready none with state:=.busy}):=World.putObj_heap_same hlt
      have hk2:(Wa.putObj (w.heap.size+1) (.loop {rec .ready none with state:=.busy})).heap[w.heap.size]? =some (.deferred (some [])):=(World.putObj_heap_other (by omega)).trans hka
      have hw2:gG lo hi Wa (Wa.putObj (w.heap.size+1) (.loop {rec .ready none with state:=.busy})):=gG.put (by omega) _ _
      refine wpIn_mono (hbody _ pre x a' _ (hI.putObj _ hia (by omega) hla rfl) ((hAx x a').putObj (s:=()) _ hax (by omega) hla rfl) hpre) ?_
      have fin:∀(jump:Option Code) (W3:World),KeepsFrom w.heap.size (Wa.putObj (w.heap.size+1) (.loop {rec .ready none with state:=.busy})) W3→
          (Instr.endRound (w.heap.size+1) jump).run P W3= .ok (.bool jump.isNone) (W3.putObj (w.heap.size+1) (.loop (rec (if jump.isNone then .ready else .done) jump)))∧
          W3.heap[w.heap.size+1]? =some (.loop {rec .ready none with state:=.busy})∧
          (W3.putObj (w.heap.size+1) (.loop (rec (if jump.isNone then .ready else .done) jump))).heap[w.heap.size+1]? =some (.loop (rec (if jump.isNone then .ready else .done) jump))∧
          (W3.putObj (w.heap.size+1) (.loop (rec (if jump.isNone then .ready else .done) jump))).heap[w.heap.size]? =some (.deferred (some [])):=fun jump W3 hk3=>by
        have hl3:=yW hk3 (by omega) hl2 rfl
        have:=run_endRound (P:=P) jump hl3
        rw[hrec]at this⊢
        exact⟨this,by rw[hrec]at hl3;exact hl3,World.putObj_heap_same (Array.getElem?_eq_some_iff.1 hl3).1,(World.putObj_heap_other (by omega)).trans (yW hk3 (aE _) hk2 rfl)⟩
      rintro e a3 W3 hp
      cases e with
      |normal=>
        obtain⟨hk3,hkp3,hi3⟩:=hp
        obtain⟨hr,hl3,hl4,hk4⟩:=fin none W3 hk3
        exact⟨_,_,hr,.inl ⟨rfl,⟨hI.putObj _ hi3 (by omega) hl3 rfl,hl4,hk4⟩,(hkpa.trans hw2).trans (hkp3.trans (gG.put (by omega) _ _))⟩⟩
      |ret=>
        obtain⟨hk3,hi3⟩:=hp
        obtain⟨hr,hl3,hl4,hk4⟩:=fin (some .ret) W3 hk3
        exact⟨_,_,hr,.inr ⟨rfl,.ret,(hIx _).putObj _ hi3 (by omega) hl3 rfl,hl4,hk4⟩⟩
      |exit id=>exact hp.elim
      |goto t=>exact hp.elim
      |panic ch=>exact hp.elim
      |outgrown=>exact hp.elim
    · rintro e W2 ⟨⟨v,rfl⟩,(⟨hi',hl,hk⟩|⟨pre,hSp,c,hi',hl,hk⟩)⟩
      · exact⟨none,_,by have:=run_endLoop (P:=P) hl (by rw[hrec];simp);rw[hrec]at this;exact this,hdone _ _ (aE _) (hI.putObj _ hi' (by omega) hl rfl) ((World.putObj_heap_other (by omega)).trans hk)⟩
      · exact⟨some c,_,by have:=run_endLoop (P:=P) hl (by rw[hrec];simp);rw[hrec]at this;exact this,hstop _ c pre _ (aE _) hSp ((hIx c).putObj _ hi' (by omega) hl rfl) ((World.putObj_heap_other (by omega)).trans hk)⟩
open Go.Shelf Go.RowKit
set_option linter.unusedSimpArgs false
theorem pH:∀{l:List UInt8},Lib.indexByte l 43<0→aU l=[l]
 |[],_=>rfl
 |b::l,h=>by
  unfold Lib.indexByte at h;split at h
  ·omega
  ·rename_i hb;have hb':b≠43:=by simpa using hb
   split at h
   ·rename_i h1;have h1':Lib.indexByte l 43= -1:=by simpa using h1
    rw[mN,if_neg hb',pH (l:=l) (by omega)];rfl
   ·have:=Lib.indexByte_ge l 43;omega
theorem pI:∀{l:List UInt8} {i:Nat},Lib.indexByte l 43=(i:Int)→i+1≤l.length∧aU l=l.take i::aU (l.drop (i+1))
 |[],i,h=>by unfold Lib.indexByte at h;omega
 |b::l,i,h=>by
  unfold Lib.indexByte at h;split at h
  ·rename_i hb;have hb':b=43:=by simpa using hb
   have hi:i=0:=by omega
   subst hi hb';refine⟨by simp,?_⟩;rw[mN,if_pos rfl];rfl
  ·rename_i hb;have hb':b≠43:=by simpa using hb
   split at h
   ·omega
   ·obtain⟨j,rfl⟩:∃j,i=j+1:=⟨i-1,by
     have:=Lib.indexByte_ge l 43;rename_i h1;have h1':Lib.indexByte l 43≠ -1:=by simpa using h1
     omega⟩
    obtain⟨h2,h3⟩:=pI (l:=l) (i:=j) (by omega);refine⟨by simp;omega,?_⟩;rw[mN,if_neg hb',h3];rfl
shelf_lay Lays.n143 Nm 143 at Tryz as lay143
theorem wO (l:List UInt8) (w:World):Calls Tryz.prog 97 #[.string ⟨l.toArray⟩,.string ⟨#[43]⟩] w fun e w'=>e= .returned (.int .i64 (Lib.indexByte l 43))∧w'=w:=Any.strings_Index_one lay143 ⟨l.toArray⟩ 43 w
def wK (x:List UInt8):Array Value:=#[.string ⟨x.toArray⟩]
def rA (W:World) (lo:Nat) (l:List UInt8):Prop:=Boxed W lo 9 (.string ⟨l.toArray⟩)∧Boxed W (lo+1) 9 (.string ⟨#[43]⟩)∧Boxed W (lo+2) 3 (.int .i64 0)
theorem rA.keep {W W':World} {lo:Nat} {l:List UInt8} (h:rA W lo l) (hk:gG lo (lo+3) W W'):rA W' lo l:=⟨(hk.2 _ (by omega) (by omega)).trans h.1,(hk.2 _ (by omega) (by omega)).trans h.2.1,(hk.2 _ (by omega) (by omega)).trans h.2.2⟩
theorem rA.set {W:World} {lo:Nat} {l:List UInt8} (h:rA W lo l) (l':List UInt8):rA (W.setCell ⟨lo,0,none⟩ (.string ⟨l'.toArray⟩)) lo l':=⟨h.1.set _,h.2.1.other (by omega) _,h.2.2.other (by omega) _⟩
def zN (lo:Nat) (W:World):Nat:=match W.cell? ⟨lo,0,none⟩with|some (.string b)=>b.size|_=>0
theorem tK {W:World} {lo:Nat} {l:List UInt8} (h:rA W lo l):zN lo W=l.length:=by unfold zN;rw[h.1.cell];exact eS l
theorem xK (s:List UInt8) (hs:s.length≤1048576) (lo:Nat) (w:World) (hb:rA w lo s):wB Tryz.prog 179 #[.pointer (some ⟨lo+1,0,none⟩),.pointer (some ⟨lo,0,none⟩),.pointer (some ⟨lo+2,0,none⟩)] wK lo (lo+3) (aU s) w:=by
 intro l J Jx W hW hJ hJb hY h0;have hlt:lo+2<w.heap.size:=hb.2.2.lt
 have hB0:rA W lo s:=hb.keep (gG.below hW (by omega));have HJ:=aA hJ
 have HJB:=aA hJb;have HY:Hid (∀pre x W1,J pre W1→pre++[x]<+:aU s→YieldAt Fence.wide 8 Tryz.prog l (#[.string ⟨x.toArray⟩]) W1 fun e W'=>(e= .returned (.bool true)∧J (pre++[x]) W'∧gG lo (lo+3) W1 W')∨(e= .returned (.bool false)∧Jx (pre++[x]) W')):=aA (fun pre x W1 a b=>zO 8 (hY pre x W1 a b))
 clear hJ hJb hY hW hb;refine(callsIn_wide (n:=9)).1 ?_;refine callsIn_of_wp Tryz.func179 rfl trivial ?_ rfl;simp only[Tryz.ntmps179,List.size_toArray,List.length_cons,List.length_nil,Nat.reduceAdd,Nat.reduceSub,Array.replicate_succ,Array.replicate_zero,List.push_toArray,List.append_toArray,List.nil_append,List.cons_append];have c1:=hB0.2.1.cell
 gi_wp2
 clear c1
 gi_loopw [7] (fun v wr=>∃(lr:List UInt8) (pre:List (List UInt8)),lr.length≤1048576∧Hid (pre++aU lr=aU s)∧Hid (J pre wr)∧Hid (rA wr lo lr)) (fun _ wr=>zN lo wr)
 case atStart=>exact⟨s,[],hs,aA rfl,aA h0,aA hB0⟩
 case round=>
  obtain⟨lr,pre,hlr,HC,HJP,HB⟩:=hrel;have HSZ:=aA (tK HB.out)
  obtain⟨b1,b2,b3⟩:=HB.out;have c1:=b1.cell
  have c2:=b2.cell;have c3:=b3.cell
  have z1:=b1.frozen;clear b1 b2 b3;have hix:=wO lr wr
  by_cases hn:Lib.indexByte lr 43<0
  ·have HCE:Hid (pre++[lr]=aU s):=by rw[←HC.out,pH hn];exact aA rfl
   obtain⟨fn,tmps,assign,body,hyl,hRd⟩:=HY.out pre lr wr HJP.out (by rw[HCE.out];exact List.prefix_rfl);obtain⟨iv,hiv⟩:∃iv,Lib.indexByte lr 43=iv:=⟨_,rfl⟩
   rw[hiv]at hn hix;have HIX:=aA hix
   clear hiv hix
   gi_wp2_with (first
    |(refine⟨trivial,?_⟩;gi_at_call 97;refine(callsIn_wide.2 HIX.out).mono ?_;rintro e w4 ⟨rfl,hw4⟩;obtain rfl:=hw4.symm;clear hw4)
    |gi_in)
   refine hRd.mono ?_;rintro e W3 (⟨rfl,hJ3,hk3⟩|⟨rfl,hJx3⟩)
   ·gi_wp2
    go_end0
    exact⟨⟨_,rfl⟩,.inl (by rw[←HCE.out];exact hJ3)⟩
   ·gi_wp2
    go_end0
    exact⟨⟨_,rfl⟩,.inr ⟨_,by rw[HCE.out];exact List.prefix_rfl,hJx3⟩⟩
  ·obtain⟨i,hi⟩:∃i:Nat,Lib.indexByte lr 43=(i:Int):=⟨(Lib.indexByte lr 43).toNat,by omega⟩
   obtain⟨hil,hcut⟩:=pI hi;have HCE:Hid ((pre++[lr.take i])++aU (lr.drop (i+1))=aU s):=by rw[←HC.out,hcut];exact aA (by simp)
   obtain⟨fr,hfr⟩:∃fr,lr.take i=fr:=⟨_,rfl⟩
   obtain⟨re,hre⟩:∃re,lr.drop (i+1)=re:=⟨_,rfl⟩
   have hrel:re.length<lr.length:=by rw[←hre];simp;omega
   have hto:=fun u=>mA (l:=lr) (k:=i) (by omega) u;have hfm:=fun u=>lA (l:=lr) (k:=i) hil u
   rw[hfr]at HCE hto;rw[hre]at HCE hfm;rw[hi]at hix;have HIX:=aA hix
   have hiI:(i:Int)≤1048576:=by omega
   obtain⟨fn,tmps,assign,body,hyl,hRd⟩:=HY.out pre fr wr HJP.out (by rw[←HCE.out];exact⟨_,rfl⟩);clear hix hi hcut hfr hre hn
   gi_wp2_with (first
    |(refine⟨trivial,?_⟩;gi_at_call 97;refine(callsIn_wide.2 HIX.out).mono ?_;rintro e w4 ⟨rfl,hw4⟩;obtain rfl:=hw4.symm;clear hw4)
    |gi_in)
   refine hRd.mono ?_;rintro e W3 (⟨rfl,hJ3,hk3⟩|⟨rfl,hJx3⟩)
   ·have hB3:=HB.out.keep hk3;obtain⟨b1,b2,b3⟩:=hB3;clear c1 c2 c3 z1;have c1:=b1.cell
    have c2:=b2.cell;have c3:=b3.cell
    have z1:=b1.frozen;have HB4:=aA (rA.set ⟨b1,b2,b3⟩ re)
    have HJ4:=aA (HJB.out _ _ lo (.string ⟨re.toArray⟩) (aE _) (by omega) hJ3);clear b1 b2 b3 hk3 hJ3
    gi_wp2
    go_roundw;case rel=>exact⟨re,pre++[fr],by omega,HCE,HJ4,HB4⟩
    case measure=>
     have h1:=tK HB4.out;have h2:=HSZ.out
     omega
   ·gi_wp2
    refine bN (results_none rfl _ _ _) rfl ?_;exact⟨⟨_,rfl⟩,.inr ⟨_,by rw[←HCE.out];exact⟨_,rfl⟩,hJx3⟩⟩
open Go.Shelf Go.RowKit Go.Maps
shelf_lay LaysM.n145 Nm 145 at Tryz as layM145
shelf_lay LaysM.n147 Nm 147 at Tryz as layM147
shelf_lay LaysM.n143 Nm 143 at Tryz as layM143
def rH (w:World):Prop:=∃m,w.cell? ⟨1,0,none⟩=some (.int .i64 m)
theorem rH.below {w w':World} (h:rH w) (hb:Below w.heap.size w w'):rH w':=h.imp fun m e=>(hb.cell (p:=⟨1,0,none⟩) (tS _ _ e)).trans e
theorem xY (l:List UInt8) (hl:l.length≤1048576) (w:World) (h:rH w):Calls Tryz.prog 36 #[.string ⟨l.toArray⟩,.string ⟨#[32]⟩] w fun e w'=>e= .returned (.tuple #[.string ⟨(Lib.cut l [32]).1.toArray⟩,.string ⟨(Lib.cut l [32]).2.1.toArray⟩,.bool (Lib.cut l [32]).2.2])∧Below w.heap.size w w':=by obtain⟨m,hm⟩:=h;refine(Any.strings_Cut layM145.ton145 ⟨l.toArray⟩ ⟨#[32]⟩ m w (by show l.toArray.size<_;simp;omega) hm).mono ?_;rintro e w' ⟨rfl,n,rfl⟩;exact⟨rfl,below_drewN (aC _ _) n⟩
theorem yC (l:List UInt8) (w:World) (h:rH w):Calls Tryz.prog 97 #[.string ⟨#[65,66,67,68,69,70]⟩,.string ⟨l.toArray⟩] w fun e w'=>e= .returned (.int .i64 (mH l))∧w'=w:=by obtain⟨m,hm⟩:=h;exact Any.strings_Index lay143 ⟨#[65,66,67,68,69,70]⟩ ⟨l.toArray⟩ m w (by show(6:Nat)<_;omega) hm
theorem kZ:∀(k:Nat) (s:List UInt8),(Lib.splitK [32] 0 k s).length≤k+1
 |0,s=>by simp[Lib.splitK]
 |k+1,s=>by
  unfold Lib.splitK;split
  ·simp
  ·exact Nat.succ_le_succ (kZ k _)
theorem qT (s:List UInt8) (k:Nat):1≤(Lib.splitK [32] 0 k s).length:=by
 cases k with
 |zero=>simp[Lib.splitK]
 |succ k=>unfold Lib.splitK;split<;>simp
theorem vQ (l:List UInt8) (hl:l.length≤1048576) (n:Nat) (hn:1≤n) (hn3:n≤3) (w:World) (h:rH w):Calls Tryz.prog 98 #[.string ⟨l.toArray⟩,.string ⟨#[32]⟩,.int .i64 n] w fun e w'=>∃cp,e= .returned (.slice (some ⟨w.heap.size,0,none⟩) (Lib.splitN l [32] n).length cp)∧Below w.heap.size w w'∧w.heap.size<w'.heap.size∧∀(j:Nat) (x:List UInt8),(Lib.splitN l [32] n)[j]? =some x→w'.cell? ⟨w.heap.size,j,none⟩=some (.string ⟨x.toArray⟩):=by
 obtain⟨m,hm⟩:=h;have hsz:(⟨l.toArray⟩:ByteArray).size=l.length:=by show l.toArray.size=_;simp
 refine(Any.strings_SplitN layM147.ton147 layM147.i9 ⟨l.toArray⟩ ⟨#[32]⟩ n m w (by rw[hsz];omega) hm (by decide) hn (by omega)).mono ?_;rintro e w' ⟨rfl,rfl⟩;have hd:=Lib.splitB_data ⟨#[32]⟩ 0 (min n ((⟨l.toArray⟩:ByteArray).size+1)-1) ⟨l.toArray⟩
 have hd2:(Lib.splitB ⟨#[32]⟩ 0 (min n ((⟨l.toArray⟩:ByteArray).size+1)-1) ⟨l.toArray⟩).map (·.data.toList)=Lib.splitN l [32] n:=by rw[hd,hsz];rfl
 have hlen:(Lib.splitB ⟨#[32]⟩ 0 (min n ((⟨l.toArray⟩:ByteArray).size+1)-1) ⟨l.toArray⟩).length=(Lib.splitN l [32] n).length:=by rw[←hd2,List.length_map]
 refine⟨_,by rw[hlen],(aC _ _).alloc (aE _) _,by simp,fun j x hx=>?_⟩;rw[←hd2,List.getElem?_map]at hx;cases hq:(Lib.splitB ⟨#[32]⟩ 0 (min n ((⟨l.toArray⟩:ByteArray).size+1)-1) ⟨l.toArray⟩)[j]? with
 |none=>rw[hq]at hx;cases hx
 |some b=>
  rw[hq]at hx;cases hx;rw[World.cell?_alloc_at _ _ _ _ rfl];unfold Lib.cellsOf;have hj:=(List.getElem?_eq_some_iff.1 hq).1
  rw[List.getElem?_toArray,List.getElem?_append_left (by rw[List.length_map];exact hj),List.getElem?_map,hq];rfl
def tX (k:Int):Value:=.func (.func (if k=1 then 66 else 67)) #[.int .i64 k] #[]
open Classical in
noncomputable def gK (v:Value):Option (DataW Unit×List MemPlace):=if v= .nilFunc then some (.lit (.int .i64 0),[])else if h:∃k:Int,(1≤k∧k≤8)∧v=tX k then some (.lit (.int .i64 h.choose),[])else none
theorem uO {k k':Int} (h:tX k=tX k'):k=k':=by unfold tX at h;injection h with _ h2 _;simpa using h2
theorem fH {k:Int} (hk:1≤k∧k≤8):gK (tX k)=some (.lit (.int .i64 k),[]):=by
 have h:∃k':Int,(1≤k'∧k'≤8)∧tX k=tX k':=⟨k,hk,rfl⟩
 unfold gK;rw[if_neg (by unfold tX;intro e;cases e),dif_pos h,←uO h.choose_spec.2]
theorem lL:gK .nilFunc=some (.lit (.int .i64 0),[]):=by unfold gK;rw[if_pos rfl]
theorem pB {v:Value} {k:Int} {ps:List MemPlace} (h:gK v=some (.lit (.int .i64 k),ps)):(k=0∧v= .nilFunc)∨((1≤k∧k≤8)∧v=tX k):=by
 unfold gK at h;split at h
 ·rename_i e;simp only[Option.some.injEq,Prod.mk.injEq,DataW.lit.injEq,Lit.int.injEq,true_and]at h;exact .inl ⟨h.1.symm,e⟩
 ·split at h
  ·rename_i q;simp only[Option.some.injEq,Prod.mk.injEq,DataW.lit.injEq,Lit.int.injEq,true_and]at h;have z:=q.choose_spec
   rw[h.1]at z;exact .inr z
  ·cases h
def fY (w:List UInt8):Lit:=.string w
def tD (D:DataW Unit) (k:Int):DataW Unit:=D.put (fY (cS k)) (.lit (.int .i64 k))
def rdD:DataW Unit:=tD (tD (tD (tD (tD (tD (tD (tD (.map []) 1) 2) 3) 4) 5) 6) 7) 8
theorem eV {D:DataW Unit} (h:IsMap D) (k:Int):IsMap (tD D k):=by obtain⟨es,rfl⟩:=h;exact⟨_,rfl⟩
theorem cH {D:DataW Unit} (h:IsMap D) (k:Int) (w:List UInt8) (z:DataW Unit):(tD D k).atKey (fY w) z=(if w=cS k then .lit (.int .i64 k)else D.atKey (fY w) z)∧Maps.has (tD D k) (fY w)=(if w=cS k then true else Maps.has D (fY w)):=by
 by_cases e:w=cS k
 ·subst e;rw[if_pos rfl,if_pos rfl];exact⟨atKey_put_same h (by trivial) _ _,has_put_same h (by trivial) _⟩
 ·rw[if_neg e,if_neg e];have hne:fY w≠fY (cS k):=fun q=>e (by cases q;rfl)
  exact⟨atKey_put_other hne _ _,has_put_other hne _⟩
theorem xD (w:List UInt8):rdD.atKey (fY w) (.lit (.int .i64 0))= .lit (.int .i64 (kn w))∧Maps.has rdD (fY w)=decide (kn w≠0):=by
 have m0:IsMap (.map []:DataW Unit):=⟨_,rfl⟩
 have m1:=eV m0 1;have m2:=eV m1 2
 have m3:=eV m2 3;have m4:=eV m3 4
 have m5:=eV m4 5;have m6:=eV m5 6
 have m7:=eV m6 7;unfold rdD;rw[(cH m7 8 w _).1,(cH m6 7 w _).1,(cH m5 6 w _).1,(cH m4 5 w _).1,(cH m3 4 w _).1,(cH m2 3 w _).1,(cH m1 2 w _).1,(cH m0 1 w _).1];rw[(cH m7 8 w .nil).2,(cH m6 7 w .nil).2,(cH m5 6 w .nil).2,(cH m4 5 w .nil).2,(cH m3 4 w .nil).2,(cH m2 3 w .nil).2,(cH m1 2 w .nil).2,(cH m0 1 w .nil).2];by_cases hk:kn w=0
 ·have hn:∀k:Int,1≤k∧k≤8→w≠cS k:=fun k hk1 e=>by rw[e,jK hk1]at hk;omega
  rw[hk];simp only[if_neg (hn 1 (by omega)),if_neg (hn 2 (by omega)),if_neg (hn 3 (by omega)),if_neg (hn 4 (by omega)),if_neg (hn 5 (by omega)),if_neg (hn 6 (by omega)),if_neg (hn 7 (by omega)),if_neg (hn 8 (by omega))];exact⟨rfl,rfl⟩
 ·have hw:=sQ hk;have hb:=sD w
  generalize kn w=k at hk hw hb;subst hw;rcases(show k=1∨k=2∨k=3∨k=4∨k=5∨k=6∨k=7∨k=8 by omega)with rfl|rfl|rfl|rfl|rfl|rfl|rfl|rfl<;>refine⟨?_,?_⟩<;>(repeat(first|rfl|rw[if_pos rfl]|rw[if_neg (by decide)]))
theorem aZ {H:Type} {P:Program} (w:World) {ops:Array Oper} {rest:List Oper} {o:Oper} {a:Act} {Q:Exit→Act→World→Prop} (hg:o.guard=none) (m x v:Operand) (t:TypeId) (hop:o.op=Op.insert t m x v) (k e:TypeId) (K:Keyed P k) (ht:P.underlying t=some (.map k e)) (R:Value→Option (DataW H×List MemPlace)) (b n:Nat) (D:DataW H) (hm:a.eval m= .map (some b)) (hown:w.ownsMap P k R b n D) (hn:n<maxLen) (key val:Value) (kl:Lit) (hx:a.eval x=key) (hv:a.eval v=val) (hkey:keyOf P k key=some kl) (d:DataW H) (ps:List MemPlace) (hval:R val=some (d,ps)) (hK:∀w',w'.ownsMap P k R b (n+1) (D.put kl d)→w.grownBy w' (some b)→wpList P ops Q rest (a.put o.dst undef) w'):wpList P ops Q (o::rest) a w:=by refine wpList_plain hg fun K' hK'=>?_;obtain⟨w',hrun,r1,r2⟩:=hown.update K ht hn hkey hval;unfold Oper.wp;simp[execOp,hop,hm,hx,hv,hrun,Result.andThen];exact hK' _ _ (hK w' r1 r2)
theorem lQ (w:List UInt8) (hw:w.length≤1048576):keyOf Tryz.prog 9 (.string ⟨w.toArray⟩)=some (fY w):=Go.WideMaps.keyOf_string_mk Tryz.underlying9 (s:=⟨w.toArray⟩) (by show w.toArray.size≤maxLen;unfold maxLen;simp;omega)
theorem mY (w:World):Calls Tryz.prog 37 #[] w fun e w'=>∃b,e= .returned (.map (some b))∧w'.ownsMap Tryz.prog 9 gK b 8 rdD∧Below w.heap.size w w':=by
 have m0:=World.ownsMap_made w Tryz.prog 9 gK;have HB0:=aA (Below.alloc (aC w.heap.size w) (aE _) (.map #[] 0))
 have HS0:=HB0.out.size;have hmm:=@run_makeMap Tryz.prog
 have ky1:keyOf Tryz.prog 9 (.string ⟨#[115,101,116]⟩)=some (fY (cS 1)):=lQ (cS 1) (by decide);have fv1:gK (.func (.func 66) #[.int .i64 1] #[])=some (.lit (.int .i64 1),[]):=fH (k:=1) (by omega)
 have ky2:keyOf Tryz.prog 9 (.string ⟨#[97,100,100]⟩)=some (fY (cS 2)):=lQ (cS 2) (by decide);have fv2:gK (.func (.func 67) #[.int .i64 2] #[])=some (.lit (.int .i64 2),[]):=fH (k:=2) (by omega)
 have ky3:keyOf Tryz.prog 9 (.string ⟨#[109,117,108]⟩)=some (fY (cS 3)):=lQ (cS 3) (by decide);have fv3:gK (.func (.func 67) #[.int .i64 3] #[])=some (.lit (.int .i64 3),[]):=fH (k:=3) (by omega)
 have ky4:keyOf Tryz.prog 9 (.string ⟨#[97,112,97,114,116]⟩)=some (fY (cS 4)):=lQ (cS 4) (by decide);have fv4:gK (.func (.func 67) #[.int .i64 4] #[])=some (.lit (.int .i64 4),[]):=fH (k:=4) (by omega)
 have ky5:keyOf Tryz.prog 9 (.string ⟨#[100,111]⟩)=some (fY (cS 5)):=lQ (cS 5) (by decide);have fv5:gK (.func (.func 67) #[.int .i64 5] #[])=some (.lit (.int .i64 5),[]):=fH (k:=5) (by omega)
 have ky6:keyOf Tryz.prog 9 (.string ⟨#[114,111,117,110,100]⟩)=some (fY (cS 6)):=lQ (cS 6) (by decide);have fv6:gK (.func (.func 67) #[.int .i64 6] #[])=some (.lit (.int .i64 6),[]):=fH (k:=6) (by omega)
 have ky7:keyOf Tryz.prog 9 (.string ⟨#[98,97,99,107]⟩)=some (fY (cS 7)):=lQ (cS 7) (by decide);have fv7:gK (.func (.func 67) #[.int .i64 7] #[])=some (.lit (.int .i64 7),[]):=fH (k:=7) (by omega)
 have ky8:keyOf Tryz.prog 9 (.string ⟨#[115,104,111,119]⟩)=some (fY (cS 8)):=lQ (cS 8) (by decide);have fv8:gK (.func (.func 67) #[.int .i64 8] #[])=some (.lit (.int .i64 8),[]):=fH (k:=8) (by omega)
 go_enter Tryz.func37,Tryz.ntmps37
 go_wp2_with (first
  |(refine aZ _ rfl _ _ _ 57 rfl 9 55 (string_keyed Tryz.underlying9) Tryz.underlying57 gK w.heap.size 7 _ rfl m7 (by decide) _ _ (fY (cS 8)) rfl rfl ky8 (.lit (.int .i64 8)) [] fv8 ?_;intro w8 m8 g8;have HB8:=aA (HB7.out.grown g8 HB7.out.size (fun q e=>by cases e;exact aE _));clear g8)
  |(refine aZ _ rfl _ _ _ 57 rfl 9 55 (string_keyed Tryz.underlying9) Tryz.underlying57 gK w.heap.size 6 _ rfl m6 (by decide) _ _ (fY (cS 7)) rfl rfl ky7 (.lit (.int .i64 7)) [] fv7 ?_;intro w7 m7 g7;have HB7:=aA (HB6.out.grown g7 HB6.out.size (fun q e=>by cases e;exact aE _));clear g7)
  |(refine aZ _ rfl _ _ _ 57 rfl 9 55 (string_keyed Tryz.underlying9) Tryz.underlying57 gK w.heap.size 5 _ rfl m5 (by decide) _ _ (fY (cS 6)) rfl rfl ky6 (.lit (.int .i64 6)) [] fv6 ?_;intro w6 m6 g6;have HB6:=aA (HB5.out.grown g6 HB5.out.size (fun q e=>by cases e;exact aE _));clear g6)
  |(refine aZ _ rfl _ _ _ 57 rfl 9 55 (string_keyed Tryz.underlying9) Tryz.underlying57 gK w.heap.size 4 _ rfl m4 (by decide) _ _ (fY (cS 5)) rfl rfl ky5 (.lit (.int .i64 5)) [] fv5 ?_;intro w5 m5 g5;have HB5:=aA (HB4.out.grown g5 HB4.out.size (fun q e=>by cases e;exact aE _));clear g5)
  |(refine aZ _ rfl _ _ _ 57 rfl 9 55 (string_keyed Tryz.underlying9) Tryz.underlying57 gK w.heap.size 3 _ rfl m3 (by decide) _ _ (fY (cS 4)) rfl rfl ky4 (.lit (.int .i64 4)) [] fv4 ?_;intro w4 m4 g4;have HB4:=aA (HB3.out.grown g4 HB3.out.size (fun q e=>by cases e;exact aE _));clear g4)
  |(refine aZ _ rfl _ _ _ 57 rfl 9 55 (string_keyed Tryz.underlying9) Tryz.underlying57 gK w.heap.size 2 _ rfl m2 (by decide) _ _ (fY (cS 3)) rfl rfl ky3 (.lit (.int .i64 3)) [] fv3 ?_;intro w3 m3 g3;have HB3:=aA (HB2.out.grown g3 HB2.out.size (fun q e=>by cases e;exact aE _));clear g3)
  |(refine aZ _ rfl _ _ _ 57 rfl 9 55 (string_keyed Tryz.underlying9) Tryz.underlying57 gK w.heap.size 1 _ rfl m1 (by decide) _ _ (fY (cS 2)) rfl rfl ky2 (.lit (.int .i64 2)) [] fv2 ?_;intro w2 m2 g2;have HB2:=aA (HB1.out.grown g2 HB1.out.size (fun q e=>by cases e;exact aE _));clear g2)
  |(refine aZ _ rfl _ _ _ 57 rfl 9 55 (string_keyed Tryz.underlying9) Tryz.underlying57 gK w.heap.size 0 _ rfl m0 (by decide) _ _ (fY (cS 1)) rfl rfl ky1 (.lit (.int .i64 1)) [] fv1 ?_;intro w1 m1 g1;have HB1:=aA (HB0.out.grown g1 HB0.out.size (fun q e=>by cases e;exact aE _));clear g1))
 go_ret;refine⟨_,rfl,m8,?_⟩;exact HB8.out
end Go.Proofs.YtkcmamepoplcdaaGreatDoor
