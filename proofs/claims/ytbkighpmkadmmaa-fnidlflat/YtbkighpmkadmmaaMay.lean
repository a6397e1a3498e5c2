/-
  Counting within a side: the mathematics of IdlFlat.
-/
import Derived.Test.YtbkighpmkadmmaaMaq
set_option maxHeartbeats 16000000
set_option maxRecDepth 100000
namespace Go.Proofs.Ytbkighpmkadmmaa
open Go.RowKit
set_option linter.unusedVariables false
def aD (φ:Nat→Nat):Nat→Nat
 |0=>0
 |n+1=>aD φ n+φ n
theorem bA {φ ψ:Nat→Nat}:∀{n:Nat},(∀i,i<n→φ i=ψ i)→aD φ n=aD ψ n
 |0,_=>rfl
 |n+1,h=>by show aD φ n+φ n=aD ψ n+ψ n;rw[bA (fun i hi=>h i (by omega)),h n (by omega)]
theorem qW (φ ψ:Nat→Nat):∀n,aD (fun i=>φ i+ψ i) n=aD φ n+aD ψ n
 |0=>rfl
 |n+1=>by
  show aD (fun i=>φ i+ψ i) n+(φ n+ψ n)=(aD φ n+φ n)+(aD ψ n+ψ n)
  rw[qW φ ψ n];omega
theorem cH:∀n,aD (fun _=>0) n=0
 |0=>rfl
 |n+1=>by show aD (fun _=>0) n+0=0;rw[cH n]
theorem eG (φ:Nat→Nat→Nat) (m:Nat):∀n,aD (fun i=>aD (φ i) m) n=aD (fun k=>aD (fun i=>φ i k) n) m
 |0=>(cH m).symm
 |n+1=>by show aD (fun i=>aD (φ i) m) n+aD (φ n) m=_;rw[eG φ m n,←qW];rfl
theorem oM (φ:Nat→Nat) (a:Nat):∀b,aD φ (a+b)=aD φ a+aD (fun i=>φ (a+i)) b
 |0=>rfl
 |b+1=>by
  show aD φ (a+b)+φ (a+b)=aD φ a+(aD (fun i=>φ (a+i)) b+φ (a+b))
  rw[oM φ a b];omega
theorem gK (φ:Nat→Nat→Nat) {b:Nat} (hb:0<b):∀c,aD (fun n=>φ (n%b) (n / b)) (b*c)=aD (fun k=>aD (fun i=>φ i k) b) c
 |0=>rfl
 |c+1=>by
  show aD (fun n=>φ (n%b) (n / b)) (b*c+b)=aD (fun k=>aD (fun i=>φ i k) b) c+aD (fun i=>φ i c) b;rw[oM,gK φ hb c];congr 1;refine bA fun i hi=>?_;show φ ((b*c+i)%b) ((b*c+i) / b)=φ i c
  rw[Nat.mul_add_mod,Nat.mod_eq_of_lt hi,Nat.mul_add_div hb,Nat.div_eq_of_lt hi,Nat.add_zero]
theorem wK (φ:Nat→Nat→Nat→Nat→Nat) {b:Nat} (hb:0<b):aD (fun n=>φ (n%b) (n / b%b) (n / b / b%b) (n / b / b / b)) (b*(b*(b*b)))=aD (fun x=>aD (fun y=>aD (fun d=>aD (fun e=>φ x y d e) b) b) b) b:=by
 rw[gK (fun x k=>φ x (k%b) (k / b%b) (k / b / b)) hb (b*(b*b))];rw[gK (fun y k=>aD (fun x=>φ x y (k%b) (k / b)) b) hb (b*b)];rw[gK (fun d e=>aD (fun y=>aD (fun x=>φ x y d e) b) b) hb b];have h1:∀e,aD (fun d=>aD (fun y=>aD (fun x=>φ x y d e) b) b) b=aD (fun x=>aD (fun y=>aD (fun d=>φ x y d e) b) b) b:=fun e=>by have s1:aD (fun d=>aD (fun y=>aD (fun x=>φ x y d e) b) b) b=aD (fun d=>aD (fun x=>aD (fun y=>φ x y d e) b) b) b:=bA fun d _=>eG (fun y x=>φ x y d e) b b;rw[s1,eG (fun d x=>aD (fun y=>φ x y d e) b) b b];exact bA fun x _=>eG (fun d y=>φ x y d e) b b
 rw[bA (fun e _=>h1 e),eG (fun e x=>aD (fun y=>aD (fun d=>φ x y d e) b) b) b b];refine bA fun x _=>?_;rw[eG (fun e y=>aD (fun d=>φ x y d e) b) b b];refine bA fun y _=>?_;exact eG (fun e d=>φ x y d e) b b
def fm (x y d e:Nat):M:=⟨x,y,d,e⟩
def cQ (o:Int) (n:Nat) (ln:Nat→Nat) (f:Nat→Nat→T) (m:M):Bool:=decide (eO (fun t=>M.dvd t.m m) (dM o ln f) n<0)
def oI (s:Nat) (x y d e:Nat):Bool:=decide (x=s∨y=s∨d=s∨e=s)
def eX (o:Int) (n:Nat) (ln:Nat→Nat) (f:Nat→Nat→T) (s:Nat):Nat:=aD (fun x=>aD (fun y=>aD (fun d=>aD (fun e=>if cQ o n ln f (fm x y d e)=true then 1 else 0) (s+1)) (s+1)) (s+1)) (s+1)
def gX (o:Int) (n:Nat) (ln:Nat→Nat) (f:Nat→Nat→T) (s:Nat):Nat:=aD (fun x=>aD (fun y=>aD (fun d=>aD (fun e=>if cQ o n ln f (fm x y d e)=true∧oI s x y d e=true then 1 else 0) (s+1)) (s+1)) (s+1)) (s+1)
def cD (o:Int) (n:Nat) (ln:Nat→Nat) (f:Nat→Nat→T) (side:Int):Int×Bool:=
 if(1≤o∧o≤3)∧aY n ln f=true∧0≤side∧side≤6 then((eX o n ln f side.toNat:Int),decide (gX o n ln f side.toNat=0))else(0,false)
theorem MO {m m':Nat} {P:Program} {l:Nat} {f:FuncId} {tmps:Array Value} {assign body:Code} {w:World} {R:Ending→World→Prop} (h:RoundIn Fence.wide m P l f tmps assign body w R):RoundIn Fence.wide m' P l f tmps assign body w R:=⟨h.1,fun c cs _=>h.2 c cs (room_wide _)⟩
theorem NH {m:Nat} (m':Nat) {P:Program} {l:Nat} {args:Array Value} {W:World} {R:Ending→World→Prop} (h:YieldAt Fence.wide m P l args W R):YieldAt Fence.wide m' P l args W R:=by obtain⟨fn,tmps,assign,body,hy,hR⟩:=h;exact⟨fn,tmps,assign,body,hy,MO hR⟩
def oR (lo hi:Nat) (A B:World):Prop:=A.heap.size≤B.heap.size∧∀k,lo≤k→k<hi→B.heap[k]? =A.heap[k]?
theorem oR.trans {lo hi:Nat} {A B C:World} (h:oR lo hi A B) (g:oR lo hi B C):oR lo hi A C:=⟨kM h.1 g.1,fun k a b=>(g.2 k a b).trans (h.2 k a b)⟩
theorem oR.put {lo hi l:Nat} (hl:hi≤l) (W:World) (o:Obj):oR lo hi W (W.putObj l o):=⟨by simp,fun k _ h=>World.putObj_heap_other (by omega)⟩
theorem oR.below {lo hi n:Nat} {A B:World} (h:Below n A B) (hn:hi≤n):oR lo hi A B:=⟨h.size,fun k _ hk=>h.block k (by omega)⟩
theorem oR.refl (lo hi:Nat) (A:World):oR lo hi A A:=⟨Nat.le_refl _,fun _ _ _=>rfl⟩
theorem oR.grown {lo hi:Nat} {A B:World} {row:Option Nat} (hg:A.grownBy B row) (hh:hi≤A.heap.size) (hr:∀k,row=some k→k<lo∨hi≤k):oR lo hi A B:=
 ⟨hg.size,fun k a b=>hg.block k (by omega) (fun e=>by have:=hr k e.symm;omega)⟩
def LL {α:Type} (P:Program) (g:Nat) (lb:Array Value) (encs:α→Array Value) (lo hi:Nat) (xs:List α) (w:World):Prop:=
 ∀(l:Nat) (J Jx:List α→World→Prop) (W:World),Below w.heap.size w W→OwnFrom W.heap.size J→(∀pre A k v,lo≤k→k<hi→J pre A→J pre (A.setCell ⟨k,0,none⟩ v))→
  (∀pre x W1,J pre W1→pre++[x]<+:xs→YieldAt Fence.wide 0 P l (encs x) W1 fun e W'=>(e= .returned (.bool true)∧J (pre++[x]) W'∧oR lo hi W1 W')∨(e= .returned (.bool false)∧Jx (pre++[x]) W'))→
  J [] W→Calls P g (#[.func (.yield l) #[] #[]]++lb) W fun e W'=>(∃v,e= .returned v)∧(J xs W'∨∃pre,pre<+:xs∧Jx pre W')
def MH {α:Type} (B lo hi:Nat) (I:List α→World→Prop) (Ix:Code→List α→World→Prop) (xs:List α) (W:World):Exit→Act→World→Prop
 | .normal,_,W'=>KeepsFrom B W W'∧oR lo hi W W'∧I xs W'
 | .ret,_,W'=>KeepsFrom B W W'∧Ix .ret xs W'
 |_,_,_=>False
theorem MW {B:Nat} {W W':World} (h:KeepsFrom B W W') {k:Nat} {o:Obj} (hk:B≤k) (h0:W.heap[k]? =some o) (ho:o.isCells=false):W'.heap[k]? =some o:=h.same k o hk h0 ho
theorem kK {W W':World} {row:Option Nat} {B:Nat} (hg:W.grownBy W' row) (hr:∀r,row=some r→B≤r) {k:Nat} {o:Obj} (hk:W.heap[k]? =some o) (hkB:k<B):W'.heap[k]? =some o:=
 (hg.block k (Array.getElem?_eq_some_iff.1 hk).1 (fun e=>by have:=hr k e.symm;omega)).trans hk
theorem KW {α : Type} {P : Program} {n : Nat} {g : Operand} {ps : Array Tmp} {assign body : Code} {Q : Exit → Act → World → Prop} {a : Act} {w : World} (h1 : 1 ≤ n) {gf : Nat} {lb : Array Value} (hg : a.eval g = .func (.func gf) #[] lb) (eg : ∀ args w, (callFunc gf args).run P w = .ok (.enter gf args) w) {encs : α → Array Value} {lo hi : Nat} {xs : List α} {w0 : World} (hseq : LL P gf lb encs lo hi xs w0) (hb0 : Below w0.heap.size w0 w) (hhi : hi ≤ w.heap.size) (hps : ∀ x, (encs x).size = ps.size) (I : List α → World → Prop) (Ix : Code → List α → World → Prop) (hI : OwnFrom w.heap.size I) (hIb : ∀ pre A k v, lo ≤ k → k < hi → I pre A → I pre (A.setCell ⟨k, 0, none⟩ v)) (hIx : ∀ c, OwnFrom w.heap.size (Ix c)) (h0 : I [] w) (Ax : α → Act → World → Prop) (hAx : ∀ x a', OwnFrom w.heap.size (fun (_ : Unit) W => Ax x a' W)) (hassign : ∀ (l : Nat) (pre : List α) (x : α) (W : World) (K : Act → World → Prop), I pre W → (∀ a' W', KeepsFrom w.heap.size W W' → oR lo hi W W' → I pre W' → Ax x a' W' → K a' W') → assign.wpIn (Fence.wide.inRound l) 0 P (Exit.then K (fun _ _ _ => False)) { tmps := (ps.zip (encs x)).foldl (fun t (p, v) => t.setIfInBounds p v) a.tmps, defers := [] } W) (hbody : ∀ (l : Nat) (pre : List α) (x : α) (a' : Act) (W : World), I pre W → Ax x a' W → pre ++ [x] <+: xs → body.wpIn (Fence.wide.inRound l) 0 P (MH w.heap.size lo hi I Ix (pre ++ [x]) W) a' W) (hdone : ∀ (D : Nat) (W : World), w.heap.size ≤ D → I xs W → W.heap[D]? = some (.deferred (some [])) → Q .normal { a with defers := { target := .collected D, args := #[] } :: a.defers } W) (hstop : ∀ (D : Nat) (c : Code) (pre : List α) (W : World), w.heap.size ≤ D → pre <+: xs → Ix c pre W → W.heap[D]? = some (.deferred (some [])) → c.wpIn Fence.wide n P Q { a with defers := { target := .collected D, args := #[] } :: a.defers } W) : (Code.rangeFunc g ps assign body).wpIn Fence.wide n P Q a w := by
  refine wpIn_rangeFunc ?_
  intro fn hfn
  obtain⟨rec,hrec⟩:∃rec:LoopState→Option Code→Loop,rec=fun st pe=>{state:=st,pending:=pe,fn,tmps:=a.tmps,params:=ps,assign,body,defers:=w.heap.size}:=⟨_,rfl⟩
  obtain⟨W1,hW1⟩:∃W1,(w.alloc (.deferred (some []))).alloc (.loop (rec .ready none))=W1:=⟨_,rfl⟩
  have hs1:W1.heap.size=w.heap.size+2:=by rw[←hW1];simp
  have hL1:W1.heap[w.heap.size+1]? =some (.loop (rec .ready none)):=by
    rw[←hW1]
    have:=World.alloc_heap_new (w.alloc (.deferred (some []))) (.loop (rec .ready none))
    rwa[World.size_alloc]at this
  have hK1:W1.heap[w.heap.size]? =some (.deferred (some [])):=by
    rw[←hW1]
    exact(Below.heap_alloc _ _ _ (by simp)).trans (World.alloc_heap_new w _)
  have hI1:I [] W1:=by rw[←hW1];exact hI.alloc _ (hI.alloc _ h0)
  have hb1:Below w0.heap.size w0 W1:=by
    rw[←hW1]
    exact hb0.trans ((((cM _ w).alloc (Nat.le_refl _) _).alloc (by simp) _).mono hb0.size)
  refine⟨w.heap.size+1,[{target:=.collected w.heap.size,args:=#[]}],W1,{target:=.fn (.func gf) lb,args:=#[.func (.yield (w.heap.size+1)) #[] #[]]},W1,gf,
    #[.func (.yield (w.heap.size+1)) #[] #[]]++lb,W1,?_,?_,?_,?_,fun _=>h1,?_⟩
  · rw[←hW1,hrec];exact run_enterLoop_outer _ _ _ _ _
  · simp only[resolve,hg]
    simp[go_sem]
  · intro f' _;exact trivial
  · simp[invoke,go_sem,eg]
  · refine callsIn_wide.2 ((hseq (w.heap.size+1)
      (fun pre W=>I pre W∧W.heap[w.heap.size+1]? =some (.loop (rec .ready none))∧W.heap[w.heap.size]? =some (.deferred (some [])))
      (fun pre W=>∃c,Ix c pre W∧W.heap[w.heap.size+1]? =some (.loop (rec .done (some c)))∧W.heap[w.heap.size]? =some (.deferred (some []))) W1 hb1
      (fun s A B row hs hg' hr=>⟨hI s A B row hs.1 hg' (fun r e=>⟨by have:=(hr r e).1;omega,(hr r e).2⟩),kK hg' (B:=W1.heap.size) (fun r e=>(hr r e).1) hs.2.1 (by omega),kK hg' (B:=W1.heap.size) (fun r e=>(hr r e).1) hs.2.2 (by omega)⟩)
      (fun pre A k v a1 a2 hs=>⟨hIb pre A k v a1 a2 hs.1,(Below.heap_setCell _ _ _ _ (by simp;omega)).trans hs.2.1,(Below.heap_setCell _ _ _ _ (by simp;omega)).trans hs.2.2⟩)
      ?_ ⟨hI1,hL1,hK1⟩).mono ?_)
    · rintro pre x W ⟨hi',hl,hk⟩ hpre
      have hy:=run_yield (P:=P) (args:=encs x) hl (by rw[hrec];exact hps x)
      rw[hrec]at hy
      refine⟨fn,_,assign,body,hy,roundIn_of_wpIn hfn (hassign _ pre x W _ hi' ?_)⟩
      clear hy
      intro a' Wa hkfa hkpa hia hax
      have hla:=MW hkfa (by omega) hl rfl
      have hka:=MW hkfa (Nat.le_refl _) hk rfl
      have hlt:w.heap.size+1<Wa.heap.size:=(Array.getElem?_eq_some_iff.1 hla).1
      refine⟨_,run_beginRound hla (by rw[hrec]),?_⟩
      have hl2:(Wa.putObj (w.heap.size+1) (.loop {rec .ready none with state:=.busy})).heap[w.heap.size+1]? =some (.loop {rec .ready none with state:=.busy}):=World.putObj_heap_same hlt
      have hk2:(Wa.putObj (w.heap.size+1) (.loop {rec .ready none with state:=.busy})).heap[w.heap.size]? =some (.deferred (some [])):=(World.putObj_heap_other (by omega)).trans hka
      have hw2:oR lo hi Wa (Wa.putObj (w.heap.size+1) (.loop {rec .ready none with state:=.busy})):=oR.put (by omega) _ _
      refine wpIn_mono (hbody _ pre x a' _ (hI.putObj _ hia (by omega) hla rfl) ((hAx x a').putObj (s:=()) _ hax (by omega) hla rfl) hpre) ?_
      have fin:∀(jump:Option Code) (W3:World),KeepsFrom w.heap.size (Wa.putObj (w.heap.size+1) (.loop {rec .ready none with state:=.busy})) W3→
          (Instr.endRound (w.heap.size+1) jump).run P W3= .ok (.bool jump.isNone) (W3.putObj (w.heap.size+1) (.loop (rec (if jump.isNone then .ready else .done) jump)))∧
          W3.heap[w.heap.size+1]? =some (.loop {rec .ready none with state:=.busy})∧
          (W3.putObj (w.heap.size+1) (.loop (rec (if jump.isNone then .ready else .done) jump))).heap[w.heap.size+1]? =some (.loop (rec (if jump.isNone then .ready else .done) jump))∧
          (W3.putObj (w.heap.size+1) (.loop (rec (if jump.isNone then .ready else .done) jump))).heap[w.heap.size]? =some (.deferred (some [])):=fun jump W3 hk3=>by
        have hl3:=MW hk3 (by omega) hl2 rfl
        have:=run_endRound (P:=P) jump hl3
        rw[hrec]at this⊢
        exact⟨this,by rw[hrec]at hl3;exact hl3,World.putObj_heap_same (Array.getElem?_eq_some_iff.1 hl3).1,(World.putObj_heap_other (by omega)).trans (MW hk3 (Nat.le_refl _) hk2 rfl)⟩
      rintro e a3 W3 hp
      cases e with
      |normal=>
        obtain⟨hk3,hkp3,hi3⟩:=hp
        obtain⟨hr,hl3,hl4,hk4⟩:=fin none W3 hk3
        exact⟨_,_,hr,.inl ⟨rfl,⟨hI.putObj _ hi3 (by omega) hl3 rfl,hl4,hk4⟩,(hkpa.trans hw2).trans (hkp3.trans (oR.put (by omega) _ _))⟩⟩
      |ret=>
        obtain⟨hk3,hi3⟩:=hp
        obtain⟨hr,hl3,hl4,hk4⟩:=fin (some .ret) W3 hk3
        exact⟨_,_,hr,.inr ⟨rfl,.ret,(hIx _).putObj _ hi3 (by omega) hl3 rfl,hl4,hk4⟩⟩
      |exit id=>exact hp.elim
      |goto t=>exact hp.elim
      |panic ch=>exact hp.elim
      |outgrown=>exact hp.elim
    · rintro e W2 ⟨⟨v,rfl⟩,(⟨hi',hl,hk⟩|⟨pre,hSp,c,hi',hl,hk⟩)⟩
      · exact⟨none,_,by have:=run_endLoop (P:=P) hl (by rw[hrec];simp);rw[hrec]at this;exact this,hdone _ _ (Nat.le_refl _) (hI.putObj _ hi' (by omega) hl rfl) ((World.putObj_heap_other (by omega)).trans hk)⟩
      · exact⟨some c,_,by have:=run_endLoop (P:=P) hl (by rw[hrec];simp);rw[hrec]at this;exact this,hstop _ c pre _ (Nat.le_refl _) hSp ((hIx c).putObj _ hi' (by omega) hl rfl) ((World.putObj_heap_other (by omega)).trans hk)⟩
open Go.RowKit Go.Deep Go.Joins
theorem GT (w:World) (o:Int) (a:Option Addr) (n cap:Nat) (ad:Nat→Option Addr) (ln cp:Nat→Nat) (f:Nat→Nat→T) (m:M) (h:gO w a n cap ad ln cp f) (hok:∀i,i<n→ln i≠0∧aL (ln i) (f i)=true):Calls Try.prog 52 #[.int .i64 o,.slice a n cap,.agg #[.int .i64 m.x,.int .i64 m.y,.int .i64 m.d,.int .i64 m.e]] w fun r w'=>r= .returned (.int .i64 (eO (fun t=>M.dvd t.m m) (dM o ln f) n))∧Below w.heap.size w w':=by
 have hn:(n:Int)≤140737488351232:=by have:=h.2.1;omega
 have HB0:=aA (aC w (.cells #[.int .i64 m.x,.int .i64 m.y,.int .i64 m.d,.int .i64 m.e] 31));have HM0:=aA (M4.box w 31 m.x m.y m.d m.e)
 have HH:=aA h;have HO:=aA hok
 clear h hok;go_enter Try.func52,Try.ntmps52;go_wp2;go_loopw [7] (fun v wr=>∃i:Nat,i≤n∧v= .int .i64 (i:Int)∧Below w.heap.size w wr∧M4 wr w.heap.size m.x m.y m.d m.e∧∀j,j<i→M.dvd (dM o ln f j).m m=false) (fun v _=>n-(intOf v).toNat);case atStart=>exact⟨0,gT _,rfl,HB0.out,HM0.out,fun j hj=>by omega⟩
 case round=>
  obtain⟨i,hi,rfl,hB,hM,hJ⟩:=hrel;have HJ:=aA hJ
  have HB:=aA hB;have HM:=aA hM
  clear hJ;by_cases hlt:i<n
  ·rcases HH.out.2.2.1 with h0|⟨b,off,rfl,hblt,hcl⟩
   ·omega
   have hil:(i:Int)<(n:Int):=by omega
   have hbr:b<wr.heap.size:=lD hblt hB.size;have g0:wr.cell? ⟨b,off+i,none⟩=some (.slice (ad i) (ln i) (cp i)):=(hB.cell (p:=⟨b,off+i,none⟩) hblt).trans (hcl i hlt)
   have hS:L5 b (off+i) w.heap.size (.slice (ad i) (ln i) (cp i)) m wr.drew:=⟨g0,hM.1,hM.2.1,hM.2.2.1,hM.2.2.2⟩
   have hoi:=HO.out i hlt;have fl:=fI hoi.2
   have HK:=aA ((HH.out.2.2.2 i hlt).below hB);obtain⟨t,ht⟩:∃t,dM o ln f i=t:=⟨_,rfl⟩
   have hlead:Calls Try.prog 46 #[.int .i64 o,.slice (ad i) (ln i) (cp i)] wr.drew fun r w'=>r= .returned (.agg #[.int .i64 t.c,.int .i64 t.m.x,.int .i64 t.m.y,.int .i64 t.m.d,.int .i64 t.m.e])∧Below wr.drew.heap.size wr.drew w':=by have:=kU wr.drew o (ad i) (ln i) (cp i) (f i) (HK.out.below (cM _ _).drew) (by omega) (fun j hj=>(fl.2 j hj).1);rw[show f i (aP o (f i) (ln i))=t from ht]at this;exact this
   obtain⟨bv,hbv⟩:∃bv,M.dvd ⟨t.m.x,t.m.y,t.m.d,t.m.e⟩ ⟨m.x,m.y,m.d,m.e⟩=bv:=⟨_,rfl⟩
   have HT:Hid (M.dvd (dM o ln f i).m m=bv):=by show M.dvd (dM o ln f i).m m=bv;rw[ht];exact hbv
   have hfield:∀W:World,(Instr.field 33 (Value.agg #[.int .i64 t.c,.int .i64 t.m.x,.int .i64 t.m.y,.int .i64 t.m.d,.int .i64 t.m.e]) 1).run Try.prog W= .ok (Value.agg #[.int .i64 t.m.x,.int .i64 t.m.y,.int .i64 t.m.d,.int .i64 t.m.e]) W:=fun W=>by kernel_rfl
   have HBD:=aA hB.drew;have HMD:=aA hM.drew'
   clear hcl hB hM g0 hoi fl ht hbr;go_wp2_with fail
   go_region_held3 (fun u=>u.cell? ⟨b,off+i,none⟩=some (.slice (ad i) (ln i) (cp i))∧u.cell? ⟨w.heap.size,0,none⟩=some (.int .i64 m.x)∧u.cell? ⟨w.heap.size,1,none⟩=some (.int .i64 m.y)∧u.cell? ⟨w.heap.size,2,none⟩=some (.int .i64 m.d)∧u.cell? ⟨w.heap.size,3,none⟩=some (.int .i64 m.e)) (first|with_reducible exact hS|with_reducible exact L5.below hS b1|with_reducible exact L5.below (L5.below hS b1) b2) (first|(go_at_call 46;refine hlead.mono ?_;rintro e w1 ⟨rfl,b1⟩)|(go_at_call 86;refine(eS hbv _).mono ?_;rintro e w2 ⟨rfl,b2⟩))
   have HBV:=aA (aB (aB HBD.out b1) b2);have HMV:=aA ((HMD.out.below b1).below b2)
   clear hS hlead hbv b1 b2 hfield;cases bv
   ·go_wp2;go_roundw
    case rel=>exact⟨i+1,by omega,by go_num,HBV.out,HMV.out,fun j hj=>by
     by_cases e:j=i
     ·rw[e];exact HT.out
     ·exact HJ.out j (by omega)⟩
    case measure=>simp[intOf];omega
   ·go_wp2;go_ret;have e:eO (fun t=>M.dvd t.m m) (dM o ln f) n=(i:Int):=mR (p:=fun t=>M.dvd t.m m) (f:=dM o ln f) HJ.out HT.out n hlt
    rw[e];exact⟨rfl,HBV.out⟩
  ·have hnl:¬(i:Int)<(n:Int):=by omega
   have hie:i=n:=by omega
   subst hie;go_wp2;go_ret;have e:eO (fun t=>M.dvd t.m m) (dM o ln f) i= -1:=kE (p:=fun t=>M.dvd t.m m) (f:=dM o ln f) HJ.out
   rw[e];exact⟨rfl,HB.out⟩
theorem yR {p:T→Bool} {f:Nat→T}:∀n, -1≤eO p f n∧eO p f n<n+1
 |0=>⟨by show(-1:Int)≤ -1;omega,by show(-1:Int)<((0:Nat):Int)+1;omega⟩
 |n+1=>by
  have ih:=yR (p:=p) (f:=f) n;unfold eO;split
  ·exact⟨by omega,by omega⟩
  ·split
   ·exact⟨by omega,by omega⟩
   ·exact⟨by omega,by omega⟩
theorem vA (w:World) (o:Int) (a:Option Addr) (n cap:Nat) (ad:Nat→Option Addr) (ln cp:Nat→Nat) (f:Nat→Nat→T) (s:Nat) (h:gO w a n cap ad ln cp f) (o1:1≤o) (o2:o≤3) (hl:aY n ln f=true) (hs:s≤6):Calls Try.prog 18 #[.int .i64 o,.slice a n cap,.int .i64 (s:Int)] w fun r w'=>r= .returned (.tuple #[.int .i64 (eX o n ln f s:Int),.bool (decide (gX o n ln f s=0))])∧Below w.heap.size w w':=by
 have HH:=aA h;have HLO:=aA (aZ hl).2
 have s0:(0:Int)≤(s:Int):=by omega
 have s6:(s:Int)≤6:=by omega
 obtain⟨G,hG⟩:∃G:Nat→Nat→Nat→Nat→Nat,G=fun x y d e=>if cQ o n ln f (fm x y d e)=true then 1 else 0:=⟨_,rfl⟩
 obtain⟨E,hE⟩:∃E:Nat→Nat→Nat→Nat→Nat,E=fun x y d e=>if cQ o n ln f (fm x y d e)=true∧oI s x y d e=true then 1 else 0:=⟨_,rfl⟩
 have HGD:=aA hG;have HED:=aA hE
 have HFN:Hid (eX o n ln f s=aD (fun x=>aD (fun y=>aD (fun d=>aD (fun e=>G x y d e) (s+1)) (s+1)) (s+1)) (s+1)):=by show _=_;rw[hG];rfl
 have HFE:Hid (gX o n ln f s=aD (fun x=>aD (fun y=>aD (fun d=>aD (fun e=>E x y d e) (s+1)) (s+1)) (s+1)) (s+1)):=by show _=_;rw[hE];rfl
 clear h hG hE;go_enter Try.func18,Try.ntmps18;go_wp2_with (go_at_call 51;refine(bF _ _ _ _ (by omega) (by omega)).mono ?_;rintro r w' ⟨rfl,hw'⟩;obtain rfl:=hw'.symm;clear hw');refine(iK _ _ _ _ _ _ _ _ HH.out).mono ?_;rw[hl];rintro r w1 ⟨rfl,hb1⟩;have HB1:=aA hb1
 clear hb1;go_wp2_with (go_at_call 51;refine(bF _ _ _ _ (by omega) (by omega)).mono ?_;rintro r w' ⟨rfl,hw'⟩;obtain rfl:=hw'.symm;clear hw');go_loopw [8,9,10] (fun nv ev iv wr=>∃(x N E9:Nat) (ed:Bool),x≤s+1∧iv= .int .i64 (x:Int)∧nv= .int .i64 (N:Int)∧ev= .bool ed∧Hid (ed=decide (E9≠0))∧Hid (N=aD (fun x=>aD (fun y=>aD (fun d=>aD (fun e=>G x y d e) (s+1)) (s+1)) (s+1)) x)∧Hid (E9=aD (fun x=>aD (fun y=>aD (fun d=>aD (fun e=>E x y d e) (s+1)) (s+1)) (s+1)) x)∧N≤343*x∧Hid (Below w.heap.size w wr)) (fun _ _ iv _=>7-(intOf iv).toNat);case atStart=>exact⟨0,0,0,false,gT _,rfl,rfl,rfl,aA rfl,aA rfl,aA rfl,by omega,HB1⟩
 case round=>
  obtain⟨x,N0,E0,ed0,hx,rfl,rfl,rfl,HD0,HN0,HE0,m0,HB2⟩:=hrel;by_cases lx:x≤s
  ·have cx:(x:Int)≤(s:Int):=by omega
   go_wp2;go_loopw [8,9,11] (fun nv ev iv wr=>∃(y N E9:Nat) (ed:Bool),y≤s+1∧iv= .int .i64 (y:Int)∧nv= .int .i64 (N:Int)∧ev= .bool ed∧Hid (ed=decide (E9≠0))∧Hid (N=N0+aD (fun y=>aD (fun d=>aD (fun e=>G x y d e) (s+1)) (s+1)) y)∧Hid (E9=E0+aD (fun y=>aD (fun d=>aD (fun e=>E x y d e) (s+1)) (s+1)) y)∧N≤343*x+49*y∧Hid (Below w.heap.size w wr)) (fun _ _ iv _=>7-(intOf iv).toNat);case atStart=>exact⟨0,N0,E0,ed0,gT _,rfl,rfl,rfl,HD0,aA rfl,aA rfl,by omega,HB2⟩
   case round=>
    obtain⟨y,N1,E1,ed1,hy,rfl,rfl,rfl,HD1,HN1,HE1,m1,HB3⟩:=hrel;by_cases ly:y≤s
    ·have cy:(y:Int)≤(s:Int):=by omega
     go_wp2;go_loopw [8,9,12] (fun nv ev iv wr=>∃(d N E9:Nat) (ed:Bool),d≤s+1∧iv= .int .i64 (d:Int)∧nv= .int .i64 (N:Int)∧ev= .bool ed∧Hid (ed=decide (E9≠0))∧Hid (N=N1+aD (fun d=>aD (fun e=>G x y d e) (s+1)) d)∧Hid (E9=E1+aD (fun d=>aD (fun e=>E x y d e) (s+1)) d)∧N≤343*x+49*y+7*d∧Hid (Below w.heap.size w wr)) (fun _ _ iv _=>7-(intOf iv).toNat);case atStart=>exact⟨0,N1,E1,ed1,gT _,rfl,rfl,rfl,HD1,aA rfl,aA rfl,by omega,HB3⟩
     case round=>
      obtain⟨d,N2,E2,ed2,hd,rfl,rfl,rfl,HD2,HN2,HE2,m2,HB4⟩:=hrel;by_cases ld:d≤s
      ·have cd:(d:Int)≤(s:Int):=by omega
       go_wp2;go_loopw [8,9,13] (fun nv ev iv wr=>∃(e N E9:Nat) (ed:Bool),e≤s+1∧iv= .int .i64 (e:Int)∧nv= .int .i64 (N:Int)∧ev= .bool ed∧Hid (ed=decide (E9≠0))∧Hid (N=N2+aD (fun e=>G x y d e) e)∧Hid (E9=E2+aD (fun e=>E x y d e) e)∧N≤343*x+49*y+7*d+1*e∧Hid (Below w.heap.size w wr)) (fun _ _ iv _=>7-(intOf iv).toNat);case atStart=>exact⟨0,N2,E2,ed2,gT _,rfl,rfl,rfl,HD2,aA rfl,aA rfl,by omega,HB4⟩
       case round=>
        obtain⟨e,N3,E3,ed3,he,rfl,rfl,rfl,HD3,HN3,HE3,m3,HB5⟩:=hrel;by_cases le:e≤s
        ·have ce:(e:Int)≤(s:Int):=by omega
         have hfi:=fun W hW=>GT W o a n cap ad ln cp f (fm x y d e) hW HLO.out;have HFI:=aA hfi
         clear hfi;obtain⟨z,hz⟩:∃z,eO (fun t=>M.dvd t.m (fm x y d e)) (dM o ln f) n=z:=⟨_,rfl⟩
         have hzb:=yR (p:=fun t=>M.dvd t.m (fm x y d e)) (f:=dM o ln f) n;rw[hz]at hzb;have n12:=(aZ hl).1
         have HZ:=aA hz;clear hz;have hcall:Calls Try.prog 52 #[.int .i64 o,.slice a n cap,.agg #[.int .i64 (x:Int),.int .i64 (y:Int),.int .i64 (d:Int),.int .i64 (e:Int)]] wr fun r w'=>r= .returned (.int .i64 z)∧Below wr.heap.size wr w':=by have:=HFI.out wr (HH.out.below HB5.out);rw[HZ.out]at this;exact this
         have HCALL:=aA hcall;clear hcall HFI;have HS1:Hid (aD (fun e=>G x y d e) (e+1)=aD (fun e=>G x y d e) e+G x y d e):=rfl
         have HS2:Hid (aD (fun e=>E x y d e) (e+1)=aD (fun e=>E x y d e) e+E x y d e):=rfl;by_cases hz0:z<0
         ·have HG1:Hid (G x y d e=1):=by show G x y d e=1;rw[HGD.out];show(if cQ o n ln f (fm x y d e)=true then 1 else 0)=1;rw[if_pos (by unfold cQ;rw[HZ.out];exact decide_eq_true hz0)]
          have HGO:Hid (cQ o n ln f (fm x y d e)=true):=by show cQ o n ln f (fm x y d e)=true;unfold cQ;rw[HZ.out];exact decide_eq_true hz0
          have HEDG:Hid (∀b:Bool,b=decide (x=s∨y=s∨d=s∨e=s)→(ed3||b)=decide (E3+E x y d e≠0)):=aA (fun b hb=>by
           have hd:=HD3.out;rw[HED.out];show(ed3||b)=decide (E3+(if cQ o n ln f (fm x y d e)=true∧oI s x y d e=true then 1 else 0)≠0)
           rw[hd,hb];unfold oI;by_cases q:x=s∨y=s∨d=s∨e=s
           ·rw[if_pos ⟨HGO.out,decide_eq_true q⟩,decide_eq_true q];simp
           ·rw[if_neg (fun hh=>q (of_decide_eq_true hh.2)),decide_eq_false q];simp)
          cases ed3;rotate_left
          ·have HEE:Hid (true=decide (E3+E x y d e≠0)):=aA (HEDG.out _ rfl);clear HEDG HD3;have HNX:Hid (N3+1=N2+aD (fun e=>G x y d e) (e+1)):=by show _=_;rw[HS1.out,HG1.out,←Nat.add_assoc,←HN3.out]
           have HEX:Hid (E3+E x y d e=E2+aD (fun e=>E x y d e) (e+1)):=by show _=_;rw[HS2.out,←Nat.add_assoc,←HE3.out]
           clear HG1 HGO HED HGD HS1 HS2 HZ HN3 HE3;go_wp2_with fail;refine HCALL.out.mono ?_;rintro r w6 ⟨rfl,hb6⟩;have HB6:=aA (aB HB5.out hb6)
           clear hb6 HCALL;go_wp2;go_roundw;case rel=>exact⟨e+1,N3+1,E3+E x y d e,true,by omega,by go_num,by go_num,rfl,HEE,HNX,HEX,by omega,HB6⟩
           case measure=>simp[intOf];omega
          by_cases qx:x=s
          ·have ebx:((x:Int)==(s:Int))=true:=by simp;omega
           have HEE:Hid (true=decide (E3+E x y d e≠0)):=aA (by have h:=HEDG.out true (decide_eq_true (by omega)).symm;simpa using h);clear HEDG HD3 qx;have HNX:Hid (N3+1=N2+aD (fun e=>G x y d e) (e+1)):=by show _=_;rw[HS1.out,HG1.out,←Nat.add_assoc,←HN3.out]
           have HEX:Hid (E3+E x y d e=E2+aD (fun e=>E x y d e) (e+1)):=by show _=_;rw[HS2.out,←Nat.add_assoc,←HE3.out]
           clear HG1 HGO HED HGD HS1 HS2 HZ HN3 HE3;go_wp2_with fail;refine HCALL.out.mono ?_;rintro r w6 ⟨rfl,hb6⟩;have HB6:=aA (aB HB5.out hb6)
           clear hb6 HCALL;go_wp2;go_roundw;case rel=>exact⟨e+1,N3+1,E3+E x y d e,true,by omega,by go_num,by go_num,rfl,HEE,HNX,HEX,by omega,HB6⟩
           case measure=>simp[intOf];omega
          ·have ebx:((x:Int)==(s:Int))=false:=by simp;omega
           have NX:=aA qx;clear qx;by_cases qy:y=s
           ·have eby:((y:Int)==(s:Int))=true:=by simp;omega
            have HEE:Hid (true=decide (E3+E x y d e≠0)):=aA (by have h:=HEDG.out true (decide_eq_true (by omega)).symm;simpa using h);clear HEDG HD3 qy;have HNX:Hid (N3+1=N2+aD (fun e=>G x y d e) (e+1)):=by show _=_;rw[HS1.out,HG1.out,←Nat.add_assoc,←HN3.out]
            have HEX:Hid (E3+E x y d e=E2+aD (fun e=>E x y d e) (e+1)):=by show _=_;rw[HS2.out,←Nat.add_assoc,←HE3.out]
            clear HG1 HGO HED HGD HS1 HS2 HZ HN3 HE3;go_wp2_with fail;refine HCALL.out.mono ?_;rintro r w6 ⟨rfl,hb6⟩;have HB6:=aA (aB HB5.out hb6)
            clear hb6 HCALL;go_wp2;go_roundw;case rel=>exact⟨e+1,N3+1,E3+E x y d e,true,by omega,by go_num,by go_num,rfl,HEE,HNX,HEX,by omega,HB6⟩
            case measure=>simp[intOf];omega
           ·have eby:((y:Int)==(s:Int))=false:=by simp;omega
            have NY:=aA qy;clear qy;by_cases qd:d=s
            ·have ebd:((d:Int)==(s:Int))=true:=by simp;omega
             have HEE:Hid (true=decide (E3+E x y d e≠0)):=aA (by have h:=HEDG.out true (decide_eq_true (by omega)).symm;simpa using h);clear HEDG HD3 qd;have HNX:Hid (N3+1=N2+aD (fun e=>G x y d e) (e+1)):=by show _=_;rw[HS1.out,HG1.out,←Nat.add_assoc,←HN3.out]
             have HEX:Hid (E3+E x y d e=E2+aD (fun e=>E x y d e) (e+1)):=by show _=_;rw[HS2.out,←Nat.add_assoc,←HE3.out]
             clear HG1 HGO HED HGD HS1 HS2 HZ HN3 HE3;go_wp2_with fail;refine HCALL.out.mono ?_;rintro r w6 ⟨rfl,hb6⟩;have HB6:=aA (aB HB5.out hb6)
             clear hb6 HCALL;go_wp2;go_roundw;case rel=>exact⟨e+1,N3+1,E3+E x y d e,true,by omega,by go_num,by go_num,rfl,HEE,HNX,HEX,by omega,HB6⟩
             case measure=>simp[intOf];omega
            ·have ebd:((d:Int)==(s:Int))=false:=by simp;omega
             have ND:=aA qd;clear qd;by_cases qe:e=s
             ·have ebe:((e:Int)==(s:Int))=true:=by simp;omega
              have HEE:Hid (true=decide (E3+E x y d e≠0)):=aA (by have h:=HEDG.out true (decide_eq_true (by omega)).symm;simpa using h);clear HEDG HD3 qe;have HNX:Hid (N3+1=N2+aD (fun e=>G x y d e) (e+1)):=by show _=_;rw[HS1.out,HG1.out,←Nat.add_assoc,←HN3.out]
              have HEX:Hid (E3+E x y d e=E2+aD (fun e=>E x y d e) (e+1)):=by show _=_;rw[HS2.out,←Nat.add_assoc,←HE3.out]
              clear HG1 HGO HED HGD HS1 HS2 HZ HN3 HE3;go_wp2_with fail;refine HCALL.out.mono ?_;rintro r w6 ⟨rfl,hb6⟩;have HB6:=aA (aB HB5.out hb6)
              clear hb6 HCALL;go_wp2;go_roundw;case rel=>exact⟨e+1,N3+1,E3+E x y d e,true,by omega,by go_num,by go_num,rfl,HEE,HNX,HEX,by omega,HB6⟩
              case measure=>simp[intOf];omega
             ·have ebe:((e:Int)==(s:Int))=false:=by simp;omega
              have NE:=aA qe;clear qe;have HEE:Hid (false=decide (E3+E x y d e≠0)):=aA (HEDG.out false (decide_eq_false (fun q=>by have:=NX.out;have:=NY.out;have:=ND.out;have:=NE.out;omega)).symm)
              clear HEDG NX NY ND NE HD3;have HNX:Hid (N3+1=N2+aD (fun e=>G x y d e) (e+1)):=by show _=_;rw[HS1.out,HG1.out,←Nat.add_assoc,←HN3.out]
              have HEX:Hid (E3+E x y d e=E2+aD (fun e=>E x y d e) (e+1)):=by show _=_;rw[HS2.out,←Nat.add_assoc,←HE3.out]
              clear HG1 HGO HED HGD HS1 HS2 HZ HN3 HE3;go_wp2_with fail;refine HCALL.out.mono ?_;rintro r w6 ⟨rfl,hb6⟩;have HB6:=aA (aB HB5.out hb6)
              clear hb6 HCALL;go_wp2;go_roundw;case rel=>exact⟨e+1,N3+1,E3+E x y d e,false,by omega,by go_num,by go_num,rfl,HEE,HNX,HEX,by omega,HB6⟩
              case measure=>simp[intOf];omega
         ·have HG0:Hid (G x y d e=0):=by show G x y d e=0;rw[HGD.out];show(if cQ o n ln f (fm x y d e)=true then 1 else 0)=0;rw[if_neg (by unfold cQ;rw[HZ.out];simpa using hz0)]
          have HE00:Hid (E x y d e=0):=by show E x y d e=0;rw[HED.out];show(if cQ o n ln f (fm x y d e)=true∧oI s x y d e=true then 1 else 0)=0;rw[if_neg (fun hh=>by have:=hh.1;unfold cQ at this;rw[HZ.out]at this;simp at this;omega)]
          have HNX:Hid (N3=N2+aD (fun e=>G x y d e) (e+1)):=by show _=_;rw[HS1.out,HG0.out,Nat.add_zero,←HN3.out]
          have HEX:Hid (E3=E2+aD (fun e=>E x y d e) (e+1)):=by show _=_;rw[HS2.out,HE00.out,Nat.add_zero,←HE3.out]
          clear HG0 HE00 HED HGD HS1 HS2 HZ HN3 HE3;go_wp2_with fail;refine HCALL.out.mono ?_;rintro r w6 ⟨rfl,hb6⟩;have HB6:=aA (aB HB5.out hb6)
          clear hb6 HCALL;go_wp2;go_roundw;case rel=>exact⟨e+1,N3,E3,ed3,by omega,by go_num,rfl,rfl,HD3,HNX,HEX,by omega,HB6⟩
          case measure=>simp[intOf];omega
        ·have ce:¬(e:Int)≤(s:Int):=by omega
         have ze:e=s+1:=by omega
         have HXN:Hid (N3=N1+aD (fun d=>aD (fun e=>G x y d e) (s+1)) (d+1)):=by
          show N3=N1+aD (fun d=>aD (fun e=>G x y d e) (s+1)) (d+1);have hh:aD (fun d=>aD (fun e=>G x y d e) (s+1)) (d+1)=aD (fun d=>aD (fun e=>G x y d e) (s+1)) d+aD (fun e=>G x y d e) (s+1):=rfl
          have h1:=HN3.out;have h2:=HN2.out
          rw[ze]at h1;rw[hh];omega
         have HXE:Hid (E3=E1+aD (fun d=>aD (fun e=>E x y d e) (s+1)) (d+1)):=by
          show E3=E1+aD (fun d=>aD (fun e=>E x y d e) (s+1)) (d+1);have hh:aD (fun d=>aD (fun e=>E x y d e) (s+1)) (d+1)=aD (fun d=>aD (fun e=>E x y d e) (s+1)) d+aD (fun e=>E x y d e) (s+1):=rfl
          have h1:=HE3.out;have h2:=HE2.out
          rw[ze]at h1;rw[hh];omega
         have x3:N3≤343*x+49*y+7*(d+1):=by omega
         clear ze;go_wp2;go_roundw;case rel=>exact⟨d+1,N3,E3,ed3,by omega,by go_num,rfl,rfl,HD3,HXN,HXE,x3,HB5⟩
         case measure=>simp[intOf];omega
      ·have cd:¬(d:Int)≤(s:Int):=by omega
       have zd:d=s+1:=by omega
       have HXN:Hid (N2=N0+aD (fun y=>aD (fun d=>aD (fun e=>G x y d e) (s+1)) (s+1)) (y+1)):=by
        show N2=N0+aD (fun y=>aD (fun d=>aD (fun e=>G x y d e) (s+1)) (s+1)) (y+1);have hh:aD (fun y=>aD (fun d=>aD (fun e=>G x y d e) (s+1)) (s+1)) (y+1)=aD (fun y=>aD (fun d=>aD (fun e=>G x y d e) (s+1)) (s+1)) y+aD (fun d=>aD (fun e=>G x y d e) (s+1)) (s+1):=rfl
        have h1:=HN2.out;have h2:=HN1.out
        rw[zd]at h1;rw[hh];omega
       have HXE:Hid (E2=E0+aD (fun y=>aD (fun d=>aD (fun e=>E x y d e) (s+1)) (s+1)) (y+1)):=by
        show E2=E0+aD (fun y=>aD (fun d=>aD (fun e=>E x y d e) (s+1)) (s+1)) (y+1);have hh:aD (fun y=>aD (fun d=>aD (fun e=>E x y d e) (s+1)) (s+1)) (y+1)=aD (fun y=>aD (fun d=>aD (fun e=>E x y d e) (s+1)) (s+1)) y+aD (fun d=>aD (fun e=>E x y d e) (s+1)) (s+1):=rfl
        have h1:=HE2.out;have h2:=HE1.out
        rw[zd]at h1;rw[hh];omega
       have x3:N2≤343*x+49*(y+1):=by omega
       clear zd;go_wp2;go_roundw;case rel=>exact⟨y+1,N2,E2,ed2,by omega,by go_num,rfl,rfl,HD2,HXN,HXE,x3,HB4⟩
       case measure=>simp[intOf];omega
    ·have cy:¬(y:Int)≤(s:Int):=by omega
     have zy:y=s+1:=by omega
     have HXN:Hid (N1=aD (fun x=>aD (fun y=>aD (fun d=>aD (fun e=>G x y d e) (s+1)) (s+1)) (s+1)) (x+1)):=by
      show N1=aD (fun x=>aD (fun y=>aD (fun d=>aD (fun e=>G x y d e) (s+1)) (s+1)) (s+1)) (x+1);have hh:aD (fun x=>aD (fun y=>aD (fun d=>aD (fun e=>G x y d e) (s+1)) (s+1)) (s+1)) (x+1)=aD (fun x=>aD (fun y=>aD (fun d=>aD (fun e=>G x y d e) (s+1)) (s+1)) (s+1)) x+aD (fun y=>aD (fun d=>aD (fun e=>G x y d e) (s+1)) (s+1)) (s+1):=rfl
      have h1:=HN1.out;have h2:=HN0.out
      rw[zy]at h1;rw[hh];omega
     have HXE:Hid (E1=aD (fun x=>aD (fun y=>aD (fun d=>aD (fun e=>E x y d e) (s+1)) (s+1)) (s+1)) (x+1)):=by
      show E1=aD (fun x=>aD (fun y=>aD (fun d=>aD (fun e=>E x y d e) (s+1)) (s+1)) (s+1)) (x+1);have hh:aD (fun x=>aD (fun y=>aD (fun d=>aD (fun e=>E x y d e) (s+1)) (s+1)) (s+1)) (x+1)=aD (fun x=>aD (fun y=>aD (fun d=>aD (fun e=>E x y d e) (s+1)) (s+1)) (s+1)) x+aD (fun y=>aD (fun d=>aD (fun e=>E x y d e) (s+1)) (s+1)) (s+1):=rfl
      have h1:=HE1.out;have h2:=HE0.out
      rw[zy]at h1;rw[hh];omega
     have x3:N1≤343*(x+1):=by omega
     clear zy;go_wp2;go_roundw;case rel=>exact⟨x+1,N1,E1,ed1,by omega,by go_num,rfl,rfl,HD1,HXN,HXE,x3,HB3⟩
     case measure=>simp[intOf];omega
  ·have cx:¬(x:Int)≤(s:Int):=by omega
   have zx:x=s+1:=by omega
   have HFF:=aA (And.intro (HFN.out) (HFE.out));subst zx;go_wp2;refine cN (results_tmp2 rfl _ _ _) rfl ?_;rw[HFF.out.1,HFF.out.2,←HN0.out,←HE0.out];refine⟨?_,HB2.out⟩;have hd:=HD0.out
   by_cases hz:E0=0<;>simp[hz]at hd⊢<;>simp[hd]
end Go.Proofs.Ytbkighpmkadmmaa
