/-
  A range over an iterator that turns boxes of its own (blocks lo .. hi); its body may leave the loop.
-/
import Derived.RangeFuncNested
import Derived.RangeFuncLeaves
import Derived.Deep.RegionWith
import Derived.Test.YtkcmamepoplcdaaGreatDoorXae
set_option maxHeartbeats 1000000
namespace Go.Proofs.YtkcmamepoplcdaaGreatDoor
open Go.RowKit
set_option linter.unusedVariables false
theorem SE {m m':Nat} {P:Program} {l:Nat} {f:FuncId} {tmps:Array Value} {assign body:Code} {w:World} {R:Ending→World→Prop} (h:RoundIn Fence.wide m P l f tmps assign body w R):RoundIn Fence.wide m' P l f tmps assign body w R:=⟨h.1,fun c cs _=>h.2 c cs (room_wide _)⟩
theorem UG {m:Nat} (m':Nat) {P:Program} {l:Nat} {args:Array Value} {W:World} {R:Ending→World→Prop} (h:YieldAt Fence.wide m P l args W R):YieldAt Fence.wide m' P l args W R:=by obtain⟨fn,tmps,assign,body,hy,hR⟩:=h;exact⟨fn,tmps,assign,body,hy,SE hR⟩
def mZ (lo hi:Nat) (A B:World):Prop:=A.heap.size≤B.heap.size∧∀k,lo≤k→k<hi→B.heap[k]? =A.heap[k]?
theorem mZ.trans {lo hi:Nat} {A B C:World} (h:mZ lo hi A B) (g:mZ lo hi B C):mZ lo hi A C:=⟨jW h.1 g.1,fun k a b=>(g.2 k a b).trans (h.2 k a b)⟩
theorem mZ.put {lo hi l:Nat} (hl:hi≤l) (W:World) (o:Obj):mZ lo hi W (W.putObj l o):=⟨by simp,fun k _ h=>World.putObj_heap_other (by omega)⟩
theorem mZ.below {lo hi n:Nat} {A B:World} (h:Below n A B) (hn:hi≤n):mZ lo hi A B:=⟨h.size,fun k _ hk=>h.block k (by omega)⟩
theorem mZ.refl (lo hi:Nat) (A:World):mZ lo hi A A:=⟨Nat.le_refl _,fun _ _ _=>rfl⟩
theorem mZ.grown {lo hi:Nat} {A B:World} {row:Option Nat} (hg:A.grownBy B row) (hh:hi≤A.heap.size) (hr:∀k,row=some k→k<lo∨hi≤k):mZ lo hi A B:=
 ⟨hg.size,fun k a b=>hg.block k (by omega) (fun e=>by have:=hr k e.symm;omega)⟩
def OG {α:Type} (P:Program) (g:Nat) (lb:Array Value) (encs:α→Array Value) (lo hi:Nat) (xs:List α) (w:World):Prop:=
 ∀(l:Nat) (J Jx:List α→World→Prop) (W:World),Below w.heap.size w W→OwnFrom W.heap.size J→(∀pre A k v,lo≤k→k<hi→J pre A→J pre (A.setCell ⟨k,0,none⟩ v))→
  (∀pre x W1,J pre W1→pre++[x]<+:xs→YieldAt Fence.wide 0 P l (encs x) W1 fun e W'=>(e= .returned (.bool true)∧J (pre++[x]) W'∧mZ lo hi W1 W')∨(e= .returned (.bool false)∧Jx (pre++[x]) W'))→
  J [] W→Calls P g (#[.func (.yield l) #[] #[]]++lb) W fun e W'=>(∃v,e= .returned v)∧(J xs W'∨∃pre,pre<+:xs∧Jx pre W')
def RU {α:Type} (B lo hi:Nat) (I:List α→World→Prop) (Ix:Code→List α→World→Prop) (xs:List α) (W:World):Exit→Act→World→Prop
 | .normal,_,W'=>KeepsFrom B W W'∧mZ lo hi W W'∧I xs W'
 | .ret,_,W'=>KeepsFrom B W W'∧Ix .ret xs W'
 |_,_,_=>False
theorem SH {B:Nat} {W W':World} (h:KeepsFrom B W W') {k:Nat} {o:Obj} (hk:B≤k) (h0:W.heap[k]? =some o) (ho:o.isCells=false):W'.heap[k]? =some o:=h.same k o hk h0 ho
theorem yK {W W':World} {row:Option Nat} {B:Nat} (hg:W.grownBy W' row) (hr:∀r,row=some r→B≤r) {k:Nat} {o:Obj} (hk:W.heap[k]? =some o) (hkB:k<B):W'.heap[k]? =some o:=
 (hg.block k (Array.getElem?_eq_some_iff.1 hk).1 (fun e=>by have:=hr k e.symm;omega)).trans hk
theorem PW {α : Type} {P : Program} {n : Nat} {g : Operand} {ps : Array Tmp} {assign body : Code} {Q : Exit → Act → World → Prop} {a : Act} {w : World} (h1 : 1 ≤ n) {gf : Nat} {lb : Array Value} (hg : a.eval g = .func (.func gf) #[] lb) (eg : ∀ args w, (callFunc gf args).run P w = .ok (.enter gf args) w) {encs : α → Array Value} {lo hi : Nat} {xs : List α} {w0 : World} (hseq : OG P gf lb encs lo hi xs w0) (hb0 : Below w0.heap.size w0 w) (hhi : hi ≤ w.heap.size) (hps : ∀ x, (encs x).size = ps.size) (I : List α → World → Prop) (Ix : Code → List α → World → Prop) (hI : OwnFrom w.heap.size I) (hIb : ∀ pre A k v, lo ≤ k → k < hi → I pre A → I pre (A.setCell ⟨k, 0, none⟩ v)) (hIx : ∀ c, OwnFrom w.heap.size (Ix c)) (h0 : I [] w) (Ax : α → Act → World → Prop) (hAx : ∀ x a', OwnFrom w.heap.size (fun (_ : Unit) W => Ax x a' W)) (hassign : ∀ (l : Nat) (pre : List α) (x : α) (W : World) (K : Act → World → Prop), I pre W → (∀ a' W', KeepsFrom w.heap.size W W' → mZ lo hi W W' → I pre W' → Ax x a' W' → K a' W') → assign.wpIn (Fence.wide.inRound l) 0 P (Exit.then K (fun _ _ _ => False)) { tmps := (ps.zip (encs x)).foldl (fun t (p, v) => t.setIfInBounds p v) a.tmps, defers := [] } W) (hbody : ∀ (l : Nat) (pre : List α) (x : α) (a' : Act) (W : World), I pre W → Ax x a' W → pre ++ [x] <+: xs → body.wpIn (Fence.wide.inRound l) 0 P (RU w.heap.size lo hi I Ix (pre ++ [x]) W) a' W) (hdone : ∀ (D : Nat) (W : World), w.heap.size ≤ D → I xs W → W.heap[D]? = some (.deferred (some [])) → Q .normal { a with defers := { target := .collected D, args := #[] } :: a.defers } W) (hstop : ∀ (D : Nat) (c : Code) (pre : List α) (W : World), w.heap.size ≤ D → pre <+: xs → Ix c pre W → W.heap[D]? = some (.deferred (some [])) → c.wpIn Fence.wide n P Q { a with defers := { target := .collected D, args := #[] } :: a.defers } W) : (Code.rangeFunc g ps assign body).wpIn Fence.wide n P Q a w := by
  refine wpIn_rangeFunc ?_
  intro fn hfn
  obtain⟨rec,hrec⟩:∃rec:LoopState→Option Code→Loop,rec=fun st pe=>{state:=st,pending:=pe,fn,tmps:=a.tmps,params:=ps,assign,body,defers:=w.heap.size}:=⟨_,rfl⟩
  obtain⟨W1,hW1⟩:∃W1,(w.alloc (.deferred (some []))).alloc (.loop (rec .ready none))=W1:=⟨_,rfl⟩
  have hs1:W1.heap.size=w.heap.size+2:=by rw[←hW1];simp
  have hL1:W1.heap[w.heap.size+1]? =some (.loop (rec .ready none)):=by
    rw[←hW1]
    have:=World.alloc_heap_new (w.alloc (.deferred (some []))) (.loop (rec .ready none))
    rwa[World.size_alloc]at this
  have hK1:W1.heap[w.heap.size]? =some (.deferred (some [])):=by
    rw[←hW1]
    exact(Below.heap_alloc _ _ _ (by simp)).trans (World.alloc_heap_new w _)
  have hI1:I [] W1:=by rw[←hW1];exact hI.alloc _ (hI.alloc _ h0)
  have hb1:Below w0.heap.size w0 W1:=by
    rw[←hW1]
    exact hb0.trans ((((aD _ w).alloc (Nat.le_refl _) _).alloc (by simp) _).mono hb0.size)
  refine⟨w.heap.size+1,[{target:=.collected w.heap.size,args:=#[]}],W1,{target:=.fn (.func gf) lb,args:=#[.func (.yield (w.heap.size+1)) #[] #[]]},W1,gf,
    #[.func (.yield (w.heap.size+1)) #[] #[]]++lb,W1,?_,?_,?_,?_,fun _=>h1,?_⟩
  · rw[←hW1,hrec];exact run_enterLoop_outer _ _ _ _ _
  · simp only[resolve,hg]
    simp[go_sem]
  · intro f' _;exact trivial
  · simp[invoke,go_sem,eg]
  · refine callsIn_wide.2 ((hseq (w.heap.size+1)
      (fun pre W=>I pre W∧W.heap[w.heap.size+1]? =some (.loop (rec .ready none))∧W.heap[w.heap.size]? =some (.deferred (some [])))
      (fun pre W=>∃c,Ix c pre W∧W.heap[w.heap.size+1]? =some (.loop (rec .done (some c)))∧W.heap[w.heap.size]? =some (.deferred (some []))) W1 hb1
      (fun s A B row hs hg' hr=>⟨hI s A B row hs.1 hg' (fun r e=>⟨by have:=(hr r e).1;omega,(hr r e).2⟩),yK hg' (B:=W1.heap.size) (fun r e=>(hr r e).1) hs.2.1 (by omega),yK hg' (B:=W1.heap.size) (fun r e=>(hr r e).1) hs.2.2 (by omega)⟩)
      (fun pre A k v a1 a2 hs=>⟨hIb pre A k v a1 a2 hs.1,(Below.heap_setCell _ _ _ _ (by simp;omega)).trans hs.2.1,(Below.heap_setCell _ _ _ _ (by simp;omega)).trans hs.2.2⟩)
      ?_ ⟨hI1,hL1,hK1⟩).mono ?_)
    · rintro pre x W ⟨hi',hl,hk⟩ hpre
      have hy:=run_yield (P:=P) (args:=encs x) hl (by rw[hrec];exact hps x)
      rw[hrec]at hy
      refine⟨fn,_,assign,body,hy,roundIn_of_wpIn hfn (hassign _ pre x W _ hi' ?_)⟩
      clear hy
      intro a' Wa hkfa hkpa hia hax
      have hla:=SH hkfa (by omega) hl rfl
      have hka:=SH hkfa (Nat.le_refl _) hk rfl
      have hlt:w.heap.size+1<Wa.heap.size:=(Array.getElem?_eq_some_iff.1 hla).1
      refine⟨_,run_beginRound hla (by rw[hrec]),?_⟩
      have hl2:(Wa.putObj (w.heap.size+1) (.loop {rec .ready none with state:=.busy})).heap[w.heap.size+1]? =some (.loop {rec .ready none with state:=.busy}):=World.putObj_heap_same hlt
      have hk2:(Wa.putObj (w.heap.size+1) (.loop {rec .ready none with state:=.busy})).heap[w.heap.size]? =some (.deferred (some [])):=(World.putObj_heap_other (by omega)).trans hka
      have hw2:mZ lo hi Wa (Wa.putObj (w.heap.size+1) (.loop {rec .ready none with state:=.busy})):=mZ.put (by omega) _ _
      refine wpIn_mono (hbody _ pre x a' _ (hI.putObj _ hia (by omega) hla rfl) ((hAx x a').putObj (s:=()) _ hax (by omega) hla rfl) hpre) ?_
      have fin:∀(jump:Option Code) (W3:World),KeepsFrom w.heap.size (Wa.putObj (w.heap.size+1) (.loop {rec .ready none with state:=.busy})) W3→
          (Instr.endRound (w.heap.size+1) jump).run P W3= .ok (.bool jump.isNone) (W3.putObj (w.heap.size+1) (.loop (rec (if jump.isNone then .ready else .done) jump)))∧
          W3.heap[w.heap.size+1]? =some (.loop {rec .ready none with state:=.busy})∧
          (W3.putObj (w.heap.size+1) (.loop (rec (if jump.isNone then .ready else .done) jump))).heap[w.heap.size+1]? =some (.loop (rec (if jump.isNone then .ready else .done) jump))∧
          (W3.putObj (w.heap.size+1) (.loop (rec (if jump.isNone then .ready else .done) jump))).heap[w.heap.size]? =some (.deferred (some [])):=fun jump W3 hk3=>by
        have hl3:=SH hk3 (by omega) hl2 rfl
        have:=run_endRound (P:=P) jump hl3
        rw[hrec]at this⊢
        exact⟨this,by rw[hrec]at hl3;exact hl3,World.putObj_heap_same (Array.getElem?_eq_some_iff.1 hl3).1,(World.putObj_heap_other (by omega)).trans (SH hk3 (Nat.le_refl _) hk2 rfl)⟩
      rintro e a3 W3 hp
      cases e with
      |normal=>
        obtain⟨hk3,hkp3,hi3⟩:=hp
        obtain⟨hr,hl3,hl4,hk4⟩:=fin none W3 hk3
        exact⟨_,_,hr,.inl ⟨rfl,⟨hI.putObj _ hi3 (by omega) hl3 rfl,hl4,hk4⟩,(hkpa.trans hw2).trans (hkp3.trans (mZ.put (by omega) _ _))⟩⟩
      |ret=>
        obtain⟨hk3,hi3⟩:=hp
        obtain⟨hr,hl3,hl4,hk4⟩:=fin (some .ret) W3 hk3
        exact⟨_,_,hr,.inr ⟨rfl,.ret,(hIx _).putObj _ hi3 (by omega) hl3 rfl,hl4,hk4⟩⟩
      |exit id=>exact hp.elim
      |goto t=>exact hp.elim
      |panic ch=>exact hp.elim
      |outgrown=>exact hp.elim
    · rintro e W2 ⟨⟨v,rfl⟩,(⟨hi',hl,hk⟩|⟨pre,hSp,c,hi',hl,hk⟩)⟩
      · exact⟨none,_,by have:=run_endLoop (P:=P) hl (by rw[hrec];simp);rw[hrec]at this;exact this,hdone _ _ (Nat.le_refl _) (hI.putObj _ hi' (by omega) hl rfl) ((World.putObj_heap_other (by omega)).trans hk)⟩
      · exact⟨some c,_,by have:=run_endLoop (P:=P) hl (by rw[hrec];simp);rw[hrec]at this;exact this,hstop _ c pre _ (Nat.le_refl _) hSp ((hIx c).putObj _ hi' (by omega) hl rfl) ((World.putObj_heap_other (by omega)).trans hk)⟩
open Go.Shelf Go.RowKit
set_option linter.unusedSimpArgs false
theorem ON (a b:List UInt8):(⟨a.toArray⟩++⟨b.toArray⟩:ByteArray)=⟨(a++b).toArray⟩:=by apply ByteArray.ext;simp
theorem pU (a:List UInt8) (c:UInt8):(⟨a.toArray⟩++⟨#[c]⟩:ByteArray)=⟨(a++[c]).toArray⟩:=ON a [c]
theorem EF {l:List UInt8} {k:Nat} (h:k+1≤l.length) (u:World):(Instr.slice 9 (.string ⟨l.toArray⟩) (some (.int .i64 ((k:Int)+1))) none none).run Tryz.prog u= .ok (.string ⟨(l.drop (k+1)).toArray⟩) u:=jT h u
theorem KV (x:Int):((UInt8.ofNat (x%256).toNat).toNat:Int)=x%256:=by
 have h1:=Int.emod_nonneg x (show(256:Int)≠0 by omega);have h2:=Int.emod_lt_of_pos x (show(0:Int)<256 by omega)
 rw[UInt8.toNat_ofNat'];omega
theorem IH (w:World) (x:Int) (t:TypeId):(convert 35 9 (.slice (some ⟨w.heap.size,0,none⟩) 1 1)).run Tryz.prog (w.alloc (Obj.cells #[.int .u8 (x%256)] t))= .ok (.string ⟨[UInt8.ofNat (x%256).toNat].toArray⟩) (w.alloc (Obj.cells #[.int .u8 (x%256)] t)):=
 run_convert_bytes_back _ _ _ 5 ⟨w.heap.size,0,none⟩ 1 [UInt8.ofNat (x%256).toNat] Tryz.underlying35 Tryz.underlying5 Tryz.underlying9 (fun j hj=>by
  have hj0:j=0:=by simpa using hj
  subst hj0;have e:([UInt8.ofNat (x%256).toNat]:List UInt8)[0]=UInt8.ofNat (x%256).toNat:=rfl
  rw[e,KV];show(w.alloc _).cell? ⟨w.heap.size,0,none⟩=_
  rw[World.cell?_alloc_at _ _ _ _ rfl]
  rfl)
end Go.Proofs.YtkcmamepoplcdaaGreatDoor
