/-
  Operators as linear maps: sums, products, and that who does nothing is nothing.
-/
import Derived.Test.YtdidlcjhodejjaaGreatMaf
import Derived.Sort.Row
import Derived.Shelf.SlSortCmp.QuietGrown
import Derived.Shelf.SlSortCmp.InsertionK
import Derived.Shelf.Lay
import Derived.Ground.SlsfProg
import Derived.RangeFuncSeq
import Derived.RangeFuncGives
import Derived.Sort.MapsRangeIn
import Derived.Sort.KeysCollected
import Derived.Shelf.AbstractIn
import Derived.OwnWalkIn
import Derived.TacticsInMore
import Derived.RegionIn
import Derived.LoopNIn
import Derived.LoopIn
import Derived.Shelf.SlIter.Collect
import Derived.RangeFuncNested
set_option maxHeartbeats 2000000
set_option maxRecDepth 100000
namespace Go.Proofs.YtdidlcjhodejjaaGreat
open Go.RowKit
set_option linter.unusedVariables false
def Mp (n:Nat):M:=⟨((n / 4096:Nat):Int),((n / 256%16:Nat):Int),((n / 16%16:Nat):Int),((n%16:Nat):Int)⟩
def box:List M:=(List.range 65536).map Mp
theorem JA {m:M} (h:m.ok=true):m∈box:=by obtain⟨x1,x2,y1,y2,d1,d2,e1,e2⟩:=M.ok_iff.1 h;refine List.mem_map.2 ⟨m.x.toNat*4096+m.y.toNat*256+m.d.toNat*16+m.e.toNat,List.mem_range.2 (by omega),?_⟩;cases m;simp only[Mp,M.mk.injEq]at *;refine⟨by omega,by omega,by omega,by omega⟩
theorem xY:box.Nodup:=by unfold box;rw[List.Nodup,List.pairwise_map];refine(List.nodup_range (n:=65536)).imp (fun{a b} hab e=>hab ?_);simp only[Mp,M.mk.injEq]at e;omega
theorem dF {a b:M}:eF a b=true↔a=b:=by cases a;cases b;simp[eF]
theorem tT (m:M) (v:Fq):∀S:List M,S.Nodup→m∈S→su S (fun x=>if eF m x=true then v else 0)=v
 |[],_,h=>by cases h
 |t::r,hn,h=>by
  rw[List.nodup_cons]at hn;rw[su];by_cases e:eF m t=true
  ·rw[if_pos e,rJ _ r (fun s hs=>if_neg (fun e2=>hn.1 (by rw[←dF.1 e,dF.1 e2];exact hs)))]
   grind
  ·rw[if_neg e,tT m v r hn.2 (by
    rcases List.mem_cons.1 h with h|h
    ·exact absurd (dF.2 h) e
    ·exact h)]
   grind
def nM (φ:M→Fq) (L:List T):Fq:=su L (fun t=>zz t.c*φ t.m)
theorem JS (φ:M→Fq):nM φ []=0:=rfl
theorem qX (φ:M→Fq):∀{L:List T},aK L→nM φ L=su box (fun m=>zz (aM L m)*φ m)
 |[],_=>by
  rw[JS,rJ];intro t _;show zz 0*φ t=0
  rw[WG];grind
 |t::r,h=>by
  have hr:=qX φ h.tail;have ht:=h.2 t (List.mem_cons_self ..)
  have h0:aM r t.m=0:=nJ (List.pairwise_cons.1 h.1).1;have e:su box (fun m=>zz (aM (t::r) m)*φ m)=su box (fun m=>(if eF t.m m=true then zz t.c*φ t.m else 0)+zz (aM r m)*φ m):=by
   refine fE (fun m _=>?_);rw[aM];by_cases e:eF t.m m=true
   ·rw[if_pos e,if_pos e,←dF.1 e,h0,WG];grind
   ·rw[if_neg e,if_neg e];grind
  rw[e,EG,tT t.m _ box xY (JA ht.1),←hr];rfl
theorem UG (φ:M→Fq) {L K:List T} (hL:aK L) (hK:aK K):nM φ (dJ L K)=nM φ L+nM φ K:=by have h:=cU hL hK;rw[qX φ h.1,qX φ hL,qX φ hK,←EG];refine fE (fun m _=>?_);rw[h.2,mS,TF];grind
theorem Nt (φ:M→Fq) (c:Int) (L:List T):nM φ (kZ c L)=zz c*nM φ L:=by
 unfold nM;rw[nF,yW,←TC];refine fE (fun t _=>?_);show zz (c*t.c%101)*φ t.m=_
 rw[mS,pN];grind
theorem Iy (φ:M→Fq) {L:List T} (hL:aK L) {c:Int} {m:M} (hm:m.ok=true) (c0:0≤c) (c1:c≤100):nM φ (mJ c m L)=nM φ L+zz c*φ m:=by
 have h:=vD hL hm c0 c1;have e:su box (fun x=>zz (aM (mJ c m L) x)*φ x)=su box (fun x=>(if eF m x=true then zz c*φ m else 0)+zz (aM L x)*φ x):=by
  refine fE (fun x _=>?_);rw[h.2,oJ];by_cases e:x=m
  ·rw[if_pos (fW.2 e),if_pos (dF.2 e.symm),mS,TF,e];grind
  ·rw[if_neg (fun q=>e (fW.1 q)),if_neg (fun q=>e (dF.1 q).symm)];grind
 rw[qX φ h.1,e,EG,tT m _ box xY (JA hm),qX φ hL]
 grind
theorem uZ (φ:M→Fq):∀(xs:List T) {L:List T},Pn xs→aK L→nM φ (gS xs L)=nM φ L+nM φ xs
 |[],L,_,hL=>by show nM φ L=nM φ L+0;grind
 |t::r,L,hx,hL=>by
  have h1:=hx t (List.mem_cons_self ..);show nM φ (gS r (mJ t.c t.m L))=_
  rw[uZ φ r (fun s hs=>hx s (List.mem_cons_of_mem _ hs)) (vD hL h1.1 h1.2.1 h1.2.2).1,Iy φ hL h1.1 h1.2.1 h1.2.2];show _=nM φ L+(zz t.c*φ t.m+nM φ r)
  grind
theorem Iz (φ ψ:M→Fq) (L:List T):nM (fun m=>φ m+ψ m) L=nM φ L+nM ψ L:=by unfold nM;rw[←EG];exact fE (fun t _=>by grind)
theorem Iw (c:Fq) (φ:M→Fq) (L:List T):nM (fun m=>c*φ m) L=c*nM φ L:=by unfold nM;rw[←TC];exact fE (fun t _=>by grind)
structure xR where
 x:Lq
 y:Lq
 d:Lq
 e:Lq
 wx:Po x d
 wy:Po y e
 xy:Lq.Com x y
 xe:Lq.Com x e
 dy:Lq.Com d y
 de:Lq.Com d e
def mo (g:xR) (m:M):Lq:=Lq.mul (Lq.mul (Lq.pow g.x m.x.toNat) (Lq.pow g.y m.y.toNat)) (Lq.mul (Lq.pow g.d m.d.toNat) (Lq.pow g.e m.e.toNat))
def Rp (g:xR) (L:List T):Lq:=⟨fun u n k=>nM (fun m=>(mo g m).f u n k) L,fun u v=>by
 funext n k;show nM (fun m=>(mo g m).f (va u v) n k) L=_
 rw[show(fun m=>(mo g m).f (va u v) n k)=(fun m=>(mo g m).f u n k+(mo g m).f v n k)from funext fun m=>by rw[(mo g m).add];rfl,Iz];rfl,fun c u=>by
 funext n k;show nM (fun m=>(mo g m).f (vs c u) n k) L=_
 rw[show(fun m=>(mo g m).f (vs c u) n k)=(fun m=>c*(mo g m).f u n k)from funext fun m=>by rw[(mo g m).smul];rfl,Iw]
 rfl⟩
theorem xW (g:xR) {L K:List T} (hL:aK L) (hK:aK K):Rp g (dJ L K)=Lq.sum (Rp g L) (Rp g K):=Lq.ext fun u n k=>UG (fun m=>(mo g m).f u n k) hL hK
theorem FL (g:xR) (c:Int) (L:List T):Rp g (kZ c L)=Lq.sc (zz c) (Rp g L):=Lq.ext fun u n k=>Nt (fun m=>(mo g m).f u n k) c L
theorem BC (g:xR) {L K:List T} (hL:aK L) (hK:aK K):Rp g (cY L K)=Lq.sum (Rp g L) (Lq.sc (zz 100) (Rp g K)):=by unfold cY;rw[xW g hL (gW (by omega) (by omega) hK),FL]
theorem LG (f:Nat→Lq) (u:Vq) (p q:Nat):∀n,(Lq.sumN f n).f u p q=su (List.range n) (fun i=>(f i).f u p q)
 |0=>rfl
 |n+1=>by
  rw[List.range_succ,nS,←LG f u p q n];show _+_=_+(_+0)
  grind
theorem Ou {b c i:Nat} (h:min b c<i):wN b c i=0:=by
 unfold wN;by_cases hb:b<i
 ·rw[vU b i hb,Nat.zero_mul]
 ·rw[wG c i (by omega),Nat.mul_zero]
theorem tN {x d:Lq} (h:Po x d) (b c:Nat):Lq.mul (Lq.pow d b) (Lq.pow x c)=Lq.sumN (fun i=>Lq.sc (nf (wN b c i)) (Lq.mul (Lq.pow x (c-i)) (Lq.pow d (b-i)))) (min b c+1):=by rw[IP h];refine Lq.sumN_cut (by omega) (fun i hi=>?_);rw[Ou (by omega),jX,Lq.sc_zero]
open Go.RowKit Go.Sort
structure Gr (w u:World):Prop where
 below:Below w.heap.size w u
 drawn:w.drawn≤u.drawn
theorem Gr.refl (w:World):Gr w w:=⟨bL _ _,Nat.le_refl _⟩
theorem Gr.trans {a b c:World} (h:Gr a b) (k:Gr b c):Gr a c:=⟨h.below.trans (k.below.mono h.below.size),jZ h.drawn k.drawn⟩
theorem Gr.alloc (w:World) (o:Obj):Gr w (w.alloc o):=⟨aC w o,by simp⟩
theorem Gr.drew (w:World):Gr w w.drew:=⟨(bL _ _).drew,by simp⟩
theorem Gr.form {w u:World} (h:Gr w u):∃q os,u=grow (w.drewN q) os:=by
 refine⟨u.drawn-w.drawn,u.heap.extract w.heap.size u.heap.size,?_⟩;obtain⟨⟨h1,h2,h3,h4,h5⟩,h6⟩:=h;cases u with
 |mk heap tape drawn os output=>
  simp only at h1 h2 h3 h4 h5 h6;subst h1 h2 h3;have hh:w.heap++heap.extract w.heap.size heap.size=heap:=by
   apply Array.ext_getElem?;intro i;by_cases hi:i<w.heap.size
   ·rw[Array.getElem?_append_left hi,h5 i hi]
   ·rw[Array.getElem?_append_right (by omega),Array.getElem?_extract];split
    ·congr 1;omega
    ·exact(Array.getElem?_eq_none (by omega)).symm
  have hd:w.drawn+(drawn-w.drawn)=drawn:=by omega
  simp only[grow,World.drewN];rw[hh,hd]
def nW (w:World):Type:=Subtype (fun u:World=>Gr w u)
theorem nW.there (w:World):Nonempty (nW w):=⟨⟨w,Gr.refl _⟩⟩
theorem sR {P:Program} {id:Nat} {Q:Exit→Act→World→Prop} {a:Act} {w:World} {l:List Oper} (hm:P.follows .mixedOrders=true) (hB:Region.lexB .any l.toArray=true) (h:wpQuiet P l.toArray (fun u=>∃x:nW w,u=x.1) (fun a'=>∀w',(∃x:nW w,w'=x.1)→Q .normal a' w') l a):(Code.region id l.toArray true).wp P Q a w:=
 wp_region_quiet (C:=fun u=>∃x:nW w,u=x.1) hm hB ⟨⟨_,Gr.drew _⟩,rfl⟩ (by simpa using h)
theorem XJ {P:Program} {f:FuncId} {args:Array Value} {w:World} {x:nW w} {v:Value} (h:Calls P f args x.1 fun e w'=>e= .returned v∧w'=x.1):Calls P f args x.1 fun e w''=>e= .returned v∧∃y:nW w,w''=y.1:=
 h.mono fun _ _ ⟨he,hm⟩=>⟨he,x,hm⟩
theorem qR {P:Program} {f:FuncId} {args:Array Value} {w:World} {x:nW w} {v:Value} (h:Calls P f args x.1 fun e w'=>e= .returned v∧Gr x.1 w'):Calls P f args x.1 fun e w''=>e= .returned v∧∃y:nW w,w''=y.1:=
 h.mono fun _ w' ⟨he,hm⟩=>⟨he,⟨w',x.2.trans hm⟩,rfl⟩
theorem wB {w:World} {t:TypeId} (cs:Array Value) (k:Nat) (v:Value) (h:cs[k]? =some v):∀u:nW (w.alloc (.cells cs t)),u.1.cell? ⟨w.heap.size,k,none⟩=some v:=fun u=>by
 have:=mY (w:=w) (t:=t) cs k v h ⟨u.1,u.2.below⟩;exact this
theorem Hs (x y d e:Int) (w:World) (h:M.ok ⟨x,y,d,e⟩=true):Calls Tryz.prog 144 #[.agg #[.int .i64 x,.int .i64 y,.int .i64 d,.int .i64 e]] w fun r w'=>r= .returned (.int .i64 (x+y+d+e))∧Gr w w':=by obtain⟨x1,x2,y1,y2,d1,d2,e1,e2⟩:=M.ok_iff.1 h;simp only at x1 x2 y1 y2 d1 d2 e1 e2;clear h;go_enter Tryz.func144,Tryz.ntmps144;go_wp2;go_ret;exact⟨rfl,Gr.alloc w _⟩
theorem Ez (x y d e:Int) (w:World) (h:M.ok ⟨x,y,d,e⟩=true):Calls Tryz.prog 104 #[.agg #[.int .i64 x,.int .i64 y,.int .i64 d,.int .i64 e]] w fun r w'=>r= .returned (.int .i64 (iF ⟨x,y,d,e⟩))∧Gr w w':=by obtain⟨x1,x2,y1,y2,d1,d2,e1,e2⟩:=M.ok_iff.1 h;simp only at x1 x2 y1 y2 d1 d2 e1 e2;clear h;simp only[iF];go_enter Tryz.func104,Tryz.ntmps104;go_wp2;go_ret;exact⟨rfl,Gr.alloc w _⟩
theorem OR (x y d e:Int) (w:World) (h:M.ok ⟨x,y,d,e⟩=true):Calls Tryz.prog 103 #[.agg #[.int .i64 x,.int .i64 y,.int .i64 d,.int .i64 e]] w fun r w'=>r= .returned (.int .i64 (fF ⟨x,y,d,e⟩))∧Gr w w':=by
 obtain⟨x1,x2,y1,y2,d1,d2,e1,e2⟩:=M.ok_iff.1 h;simp only at x1 x2 y1 y2 d1 d2 e1 e2;have HK:=aA h
 have k1:0≤iF ⟨x,y,d,e⟩:=by simp only[iF];omega
 have k2:iF ⟨x,y,d,e⟩≤65535:=by simp only[iF];omega
 have r1:fF ⟨x,y,d,e⟩=(x+y+d+e)*65536+iF ⟨x,y,d,e⟩:=rfl;rw[r1];clear h r1;go_enter Tryz.func103,Tryz.ntmps103;go_wp2_with fail;have B1:=aA (Gr.alloc w (.cells #[.int .i64 x,.int .i64 y,.int .i64 d,.int .i64 e] 40))
 have ne:=nW.there (w.alloc (.cells #[.int .i64 x,.int .i64 y,.int .i64 d,.int .i64 e] 40));have s0:=wB (w:=w) (t:=40) #[.int .i64 x,.int .i64 y,.int .i64 d,.int .i64 e] 0 _ rfl
 have s1:=wB (w:=w) (t:=40) #[.int .i64 x,.int .i64 y,.int .i64 d,.int .i64 e] 1 _ rfl;have s2:=wB (w:=w) (t:=40) #[.int .i64 x,.int .i64 y,.int .i64 d,.int .i64 e] 2 _ rfl
 have s3:=wB (w:=w) (t:=40) #[.int .i64 x,.int .i64 y,.int .i64 d,.int .i64 e] 3 _ rfl;refine sR (by kernel_rfl) (by kernel_rfl) ?_;repeat(go_big_quiet_step (first|(go_at_call 144;exact qR (Hs _ _ _ _ _ HK.out))|(go_at_call 104;exact qR (Ez _ _ _ _ _ HK.out))))
 refine wpQuiet_nil ?_;rintro _ ⟨u,rfl⟩;go_wp2;go_ret;exact⟨rfl,B1.out.trans u.2⟩
theorem nW.cell {w:World} (x:nW w) {b o:Nat} (h:b<w.heap.size):x.1.cell? ⟨b,o,none⟩=w.cell? ⟨b,o,none⟩:=x.2.below.cell (p:=⟨b,o,none⟩) h
theorem QQ (Br:Nat) (x y d e x' y' d' e':Int) (w:World) (h:M.ok ⟨x,y,d,e⟩=true) (h':M.ok ⟨x',y',d',e'⟩=true) (hB:Br<w.heap.size) (hr:w.cell? ⟨Br,0,none⟩=some (.func (.func 103) #[] #[])):Calls Tryz.prog 180 #[.agg #[.int .i64 x,.int .i64 y,.int .i64 d,.int .i64 e],.agg #[.int .i64 x',.int .i64 y',.int .i64 d',.int .i64 e'],.pointer (some ⟨Br,0,none⟩)] w fun r w'=>r= .returned (.int .i64 (c3 (fF ⟨x,y,d,e⟩) (fF ⟨x',y',d',e'⟩)))∧Gr w w':=by
 have HA:=aA h;have HB:=aA h'
 clear h h';go_enter Tryz.func180,Tryz.ntmps180;go_wp2_with fail;have B1:=aA ((Gr.alloc w (.cells #[.int .i64 x,.int .i64 y,.int .i64 d,.int .i64 e] 40)).trans (Gr.alloc _ (.cells #[.int .i64 x',.int .i64 y',.int .i64 d',.int .i64 e'] 40)))
 have r0:((w.alloc (.cells #[.int .i64 x,.int .i64 y,.int .i64 d,.int .i64 e] 40)).alloc (.cells #[.int .i64 x',.int .i64 y',.int .i64 d',.int .i64 e'] 40)).cell? ⟨Br,0,none⟩=some (.func (.func 103) #[] #[]):=(B1.out.below.cell (p:=⟨Br,0,none⟩) hB).trans hr;have a0:((w.alloc (.cells #[.int .i64 x,.int .i64 y,.int .i64 d,.int .i64 e] 40)).alloc (.cells #[.int .i64 x',.int .i64 y',.int .i64 d',.int .i64 e'] 40)).cell? ⟨w.heap.size,0,none⟩=some (.int .i64 x):=by go_simp
 have a1:((w.alloc (.cells #[.int .i64 x,.int .i64 y,.int .i64 d,.int .i64 e] 40)).alloc (.cells #[.int .i64 x',.int .i64 y',.int .i64 d',.int .i64 e'] 40)).cell? ⟨w.heap.size,1,none⟩=some (.int .i64 y):=by go_simp
 have a2:((w.alloc (.cells #[.int .i64 x,.int .i64 y,.int .i64 d,.int .i64 e] 40)).alloc (.cells #[.int .i64 x',.int .i64 y',.int .i64 d',.int .i64 e'] 40)).cell? ⟨w.heap.size,2,none⟩=some (.int .i64 d):=by go_simp
 have a3:((w.alloc (.cells #[.int .i64 x,.int .i64 y,.int .i64 d,.int .i64 e] 40)).alloc (.cells #[.int .i64 x',.int .i64 y',.int .i64 d',.int .i64 e'] 40)).cell? ⟨w.heap.size,3,none⟩=some (.int .i64 e):=by go_simp
 have b0:((w.alloc (.cells #[.int .i64 x,.int .i64 y,.int .i64 d,.int .i64 e] 40)).alloc (.cells #[.int .i64 x',.int .i64 y',.int .i64 d',.int .i64 e'] 40)).cell? ⟨w.heap.size+1,0,none⟩=some (.int .i64 x'):=by go_simp
 have b1:((w.alloc (.cells #[.int .i64 x,.int .i64 y,.int .i64 d,.int .i64 e] 40)).alloc (.cells #[.int .i64 x',.int .i64 y',.int .i64 d',.int .i64 e'] 40)).cell? ⟨w.heap.size+1,1,none⟩=some (.int .i64 y'):=by go_simp
 have b2:((w.alloc (.cells #[.int .i64 x,.int .i64 y,.int .i64 d,.int .i64 e] 40)).alloc (.cells #[.int .i64 x',.int .i64 y',.int .i64 d',.int .i64 e'] 40)).cell? ⟨w.heap.size+1,2,none⟩=some (.int .i64 d'):=by go_simp
 have b3:((w.alloc (.cells #[.int .i64 x,.int .i64 y,.int .i64 d,.int .i64 e] 40)).alloc (.cells #[.int .i64 x',.int .i64 y',.int .i64 d',.int .i64 e'] 40)).cell? ⟨w.heap.size+1,3,none⟩=some (.int .i64 e'):=by go_simp
 have z:((w.alloc (.cells #[.int .i64 x,.int .i64 y,.int .i64 d,.int .i64 e] 40)).alloc (.cells #[.int .i64 x',.int .i64 y',.int .i64 d',.int .i64 e'] 40)).heap.size=w.heap.size+2:=by simp
 generalize(w.alloc (.cells #[.int .i64 x,.int .i64 y,.int .i64 d,.int .i64 e] 40)).alloc (.cells #[.int .i64 x',.int .i64 y',.int .i64 d',.int .i64 e'] 40)=wb at *;have ne:=nW.there wb
 have sr:∀u:nW wb,u.1.cell? ⟨Br,0,none⟩=some (.func (.func 103) #[] #[]):=fun u=>(u.cell (by omega)).trans r0;have s0:∀u:nW wb,u.1.cell? ⟨w.heap.size,0,none⟩=some (.int .i64 x):=fun u=>(u.cell (by omega)).trans a0
 have s1:∀u:nW wb,u.1.cell? ⟨w.heap.size,1,none⟩=some (.int .i64 y):=fun u=>(u.cell (by omega)).trans a1;have s2:∀u:nW wb,u.1.cell? ⟨w.heap.size,2,none⟩=some (.int .i64 d):=fun u=>(u.cell (by omega)).trans a2
 have s3:∀u:nW wb,u.1.cell? ⟨w.heap.size,3,none⟩=some (.int .i64 e):=fun u=>(u.cell (by omega)).trans a3;have t0:∀u:nW wb,u.1.cell? ⟨w.heap.size+1,0,none⟩=some (.int .i64 x'):=fun u=>(u.cell (by omega)).trans b0
 have t1:∀u:nW wb,u.1.cell? ⟨w.heap.size+1,1,none⟩=some (.int .i64 y'):=fun u=>(u.cell (by omega)).trans b1;have t2:∀u:nW wb,u.1.cell? ⟨w.heap.size+1,2,none⟩=some (.int .i64 d'):=fun u=>(u.cell (by omega)).trans b2
 have t3:∀u:nW wb,u.1.cell? ⟨w.heap.size+1,3,none⟩=some (.int .i64 e'):=fun u=>(u.cell (by omega)).trans b3;clear a0 a1 a2 a3 b0 b1 b2 b3 r0;refine sR (by kernel_rfl) (by kernel_rfl) ?_;repeat(go_big_quiet_step (first|(go_at_call 76;exact XJ (vW _ _ _))|(go_at_call_of 103 (Value.int IntKind.i64 x);exact qR (OR _ _ _ _ _ HA.out))|(go_at_call 103;exact qR (OR _ _ _ _ _ HB.out))))
 refine wpQuiet_nil ?_;rintro _ ⟨u,rfl⟩;go_wp2;go_ret;exact⟨rfl,B1.out.trans u.2⟩
open Go.RowKit Go.Sort Go.Shelf Go.Lib
abbrev OM:Type:={m:M // m.ok=true}
def fI (m:OM):List Value:=[.int .i64 m.1.x,.int .i64 m.1.y,.int .i64 m.1.d,.int .i64 m.1.e]
instance:Inhabited OM:=⟨⟨⟨0,0,0,0⟩,by decide⟩⟩
theorem Az (Br blk off size:Nat) (w:World) (hB:Br<w.heap.size) (hne:Br≠blk) (hr:w.cell? ⟨Br,0,none⟩=some (.func (.func 103) #[] #[])):CmpLays Tryz.prog 180 #[.pointer (some ⟨Br,0,none⟩)] fI 4 (fun x y=>c3 (fF x.1) (fF y.1)) blk off size w:=by
 intro m os dk hdk x y;have hr':(sortWorldK fI 4 w blk off m dk os).cell? ⟨Br,0,none⟩=some (.func (.func 103) #[] #[]):=by unfold sortWorldK;rw[cell?_grow _ _ _ (by rw[size_putRowK];exact hB),cell?_putRowK_other _ _ _ blk off dk _ hne];exact hr
 have hB':Br<(sortWorldK fI 4 w blk off m dk os).heap.size:=by unfold sortWorldK;rw[Go.Sort.size_grow,size_putRowK];exact jY hB (Nat.le_add_right _ _)
 refine(QQ Br _ _ _ _ _ _ _ _ _ x.2 y.2 hB' hr').mono ?_;rintro e w' ⟨rfl,hg⟩;exact⟨rfl,hg.form⟩
theorem Si (x y:OM):ltOf (fun x y:OM=>c3 (fF x.1) (fF y.1)) x y=decide (fF x.1<fF y.1):=by
 unfold ltOf c3;by_cases h1:fF x.1<fF y.1
 ·simp[h1]
 ·by_cases h2:fF y.1<fF x.1<;>simp[h1,h2]
theorem Tl:SWO (ltOf fun x y:OM=>c3 (fF x.1) (fF y.1)) where
 irrefl x:=by rw[Si];simp
 trans x y z h1 h2:=by rw[Si]at *;simp at *;omega
 ntrans x y z h1 h2:=by rw[Si]at *;simp at *;omega
shelf_lay_g SlLaysF0.n6 Slsf 6 at Tryz 185 as sortM
end Go.Proofs.YtdidlcjhodejjaaGreat
namespace Go.Proofs.YtdidlcjhodejjaaGreat
open Go.RowKit Go.Maps Go.Sort
set_option linter.unusedVariables false
abbrev XH (m:M):Value:=.agg #[.int .i64 m.x,.int .i64 m.y,.int .i64 m.d,.int .i64 m.e]
def nV (D0:DataW Unit) (left:Lit→Bool) (ss:List M):Prop:=ss.Nodup∧(∀m∈ss,m.ok=true)∧∀m:M,m.ok=true→(m∈ss↔(Maps.has D0 (eI m)=true∧left (eI m)=false))
theorem nV.start (D0:DataW Unit):nV D0 (Maps.has D0) []:=⟨List.nodup_nil,fun m h=>by simp at h,fun m hm=>by cases Maps.has D0 (eI m)<;>simp⟩
theorem GI {a b:M}:(eI a).sameKey (eI b)=true↔eI a=eI b:=by simp[eI,Lit.sameKey]
theorem nV.step {D0:DataW Unit} {left:Lit→Bool} {ss:List M} (h:nV D0 left ss) {x:M} (hx:x.ok=true) {y:DataW Unit} (hlk:left (eI x)=true) (hat:∀zd,D0.atKey (eI x) zd=y):nV D0 (fun z=>left z&& !z.sameKey (eI x)) (ss++[x]):=by
 have hhas:Maps.has D0 (eI x)=true:=has_true_of_atKey hat;have hnew:x∉ss:=fun hx'=>by have:=((h.2.2 x hx).1 hx').2;rw[hlk]at this;cases this
 refine⟨List.nodup_append.2 ⟨h.1,by simp,fun a ha b hb=>by simp at hb;subst hb;exact fun e=>hnew (e▸ha)⟩,fun m hm=>?_,fun m hm=>?_⟩
 ·rcases List.mem_append.1 hm with h1|h1
  ·exact h.2.1 m h1
  ·simp at h1;rw[h1];exact hx
 ·by_cases hy:m=x
  ·subst hy;have:(eI m).sameKey (eI m)=true:=GI.2 rfl
   simp[hhas,this]
  ·have hne:(eI m).sameKey (eI x)=false:=by
    cases hb:(eI m).sameKey (eI x)with
    |false=>rfl
    |true=>exact absurd (wK hm hx (GI.1 hb)) hy
   simp[h.2.2 m hm,hy,hne]
theorem Nn {F:Fence} {n:Nat} (h10:F.fn 186) (hro:F.round=none) (hn:1≤n) (l Bm b nn:Nat) (D0:DataW Unit) (J:List M→World→Prop) (hks:∀kl,Maps.has D0 kl=true→∃m:M,m.ok=true∧kl=eI m) (hY:∀pre x W,J pre W→pre.length<Maps.size D0→YieldAt F (n-1) Tryz.prog l #[XH x] W fun e W'=>e= .returned (.bool true)∧J (pre++[x]) W'∧KeepsWalks W W') (W:World) (hJ:AbidesFrom W.heap.size J) (hm:W.cell? ⟨Bm,0,none⟩=some (.map (some b))) (hown:W.ownsMap Tryz.prog 40 (plainElem Tryz.prog 138) b nn D0) (h0:J [] W):CallsIn F n Tryz.prog 186 #[.func (.yield l) #[] #[],.pointer (some ⟨Bm,0,none⟩)] W fun e W'=>(∃v,e= .returned v)∧∃ss:List M,(ss.Nodup∧(∀m∈ss,m.ok=true)∧∀m:M,m.ok=true→(m∈ss↔Maps.has D0 (eI m)=true))∧ss.length≤Maps.size D0∧J ss W':=by
 refine callsIn_of_wp Tryz.func186 rfl h10 ?_ hro;simp only[Tryz.ntmps186,List.size_toArray,List.length_cons,List.length_nil,Nat.reduceAdd,Nat.reduceSub,Array.replicate_succ,Array.replicate_zero,List.push_toArray,List.append_toArray,List.nil_append,List.cons_append]
 gi_wp2_with (first
  |(gi_at_range;refine wpListIn_range_own _ rfl _ 169 rfl 40 138 nA Tryz.underlying169 _ b nn _ rfl hown ?_;intro w0 hrg0 hg0 hs0)
  |gi_in)
 go_frame
 gi_loopw [3] (fun _ wr=>∃(left:Lit→Bool) (BO:Nat) (ss:List M),wr.ranges Tryz.prog 40 (plainElem Tryz.prog 138) b W.heap.size nn D0 left BO∧ss.length+BO≤Maps.size D0∧nV D0 left ss∧J ss wr)
  (fun _ wr=>wr.rangeLeft b W.heap.size)
 case atStart=>
  exact⟨_,_,[],hrg0,by simp,nV.start D0,hJ [] W w0 none h0 hg0 (fun r e=>by cases e)⟩
 case round=>
  obtain⟨left,BO,ss,hrg,hcs,hC,hJs⟩:=hrel
  gi_wp2_with (first
   |(gi_at_next;refine wpListIn_next_ranges _ rfl _ rfl 40 nA (plainElem Tryz.prog 138) (id:Value→Value) id (fun key kl hk=>⟨key,rfl⟩) (fun v _ _=>⟨v,rfl⟩) b W.heap.size nn _ _ _ rfl hrg ?_ ?_)
   |gi_in)
  ·intro hc0 hl0
   gi_wp2
   go_end0
   exact⟨⟨_,rfl⟩,ss,⟨hC.1,hC.2.1,fun m hm=>by rw[hC.2.2 m hm,hl0];simp⟩,by omega,hJs⟩
  ·intro x c kl yd yp w2 cnt2 hkey hlk hv hat hrg2 hlt hg2 hs2 hen;obtain⟨m,hmo,rfl⟩:=hks kl (has_true_of_atKey hat);obtain rfl:x=XH m:=nA.inj hkey (pH hmo);have hJ2:J ss w2:=hJ ss wr w2 (some W.heap.size) hJs hg2 (fun r e=>by cases e;exact⟨Nat.le_refl _,hrg.iter_walk⟩)
   have hJ3:=hJ ss w2 _ none hJ2 (World.grownBy_alloc w2 (.cells #[.int .i64 m.x,.int .i64 m.y,.int .i64 m.d,.int .i64 m.e] 40) none) (fun r e=>by cases e);have hrg2':=hrg2.of_walks (KeepsWalks.alloc w2 (.cells #[.int .i64 m.x,.int .i64 m.y,.int .i64 m.d,.int .i64 m.e] 40))
   have hlt':(w2.alloc (.cells #[.int .i64 m.x,.int .i64 m.y,.int .i64 m.d,.int .i64 m.e] 40)).rangeLeft b W.heap.size=cnt2:=hrg2'.left_eq;obtain⟨fn,tmps,assign,body,hy,hR⟩:=hY ss m _ hJ3 (by omega);clear hs2
   gi_wp2
   refine hR.mono ?_;rintro e W3 ⟨rfl,hJ4,hk3⟩
   gi_wp2
   have hrg3:=hrg2'.of_walks hk3;go_roundw;case rel=>exact⟨_,cnt2,ss++[m],hrg3,by simp;omega,hC.step hmo hlk hat,hJ4⟩
   case measure=>rw[hrg3.left_eq,hrg.left_eq];exact hlt
def QL (D0:DataW Unit) (ss:List M):Prop:=ss.Nodup∧(∀m∈ss,m.ok=true)∧(∀m:M,m.ok=true→(m∈ss↔Maps.has D0 (eI m)=true))∧ss.length≤Maps.size D0
theorem XV {F:Fence} {n:Nat} (h10:F.fn 186) (hro:F.round=none) (hn:1≤n) (Bm b nn:Nat) (D0:DataW Unit) (w:World) (hBm:Bm<w.heap.size) (hks:∀kl,Maps.has D0 kl=true→∃m:M,m.ok=true∧kl=eI m) (hm:w.cell? ⟨Bm,0,none⟩=some (.map (some b))) (hown:w.ownsMap Tryz.prog 40 (plainElem Tryz.prog 138) b nn D0):SeqGives F n Tryz.prog 186 #[.pointer (some ⟨Bm,0,none⟩)] XH (QL D0) (Maps.size D0) w:=fun l J W hW hJ hY h0=>by
 have hown':W.ownsMap Tryz.prog 40 (plainElem Tryz.prog 138) b nn D0:=by have hbl:=hown.lt;obtain⟨es,clock,hb,Ft,hs,hD⟩:=hown;exact⟨es,clock,(hW.block b hbl).trans hb,Ft,hs,hD⟩
 refine(Nn h10 hro hn l Bm b nn D0 J hks hY W hJ ((hW.cell (p:=⟨Bm,0,none⟩) hBm).trans hm) hown' h0).mono ?_;rintro e W' ⟨h1,ss,⟨h2,h3,h4⟩,h5,h6⟩;exact⟨h1,ss,⟨h2,h3,h4,h5⟩,h6⟩
theorem Qk {F:Fence} {n:Nat} (h7:F.fn 179) (hro:F.round=none) (mb:Option Nat) (w:World):CallsIn F n Tryz.prog 179 #[.map mb] w fun e w'=>e= .returned (.func (.func 186) #[] #[.pointer (some ⟨w.heap.size,0,none⟩)])∧w'=w.alloc (.cells #[.map mb] 169):=by
 refine callsIn_of_wp Tryz.func179 rfl h7 ?_ hro;simp only[Tryz.ntmps179,List.size_toArray,List.length_cons,List.length_nil,Nat.reduceAdd,Nat.reduceSub,Array.replicate_succ,Array.replicate_zero,List.push_toArray,List.append_toArray,List.nil_append,List.cons_append]
 gi_wp2
 go_ret;exact⟨rfl,rfl⟩
def mN (m:M):List Value:=[.int .i64 m.x,.int .i64 m.y,.int .i64 m.d,.int .i64 m.e]
def oC (ss:List M):List Value:=ss.flatMap mN
theorem QX (ss:List M) (x:M):oC (ss++[x])=oC ss++mN x:=by simp[oC]
theorem WX (w:World) (x:M) (t:TypeId):∀j u,(mN x)[j]? =some u→(w.alloc (.cells #[.int .i64 x.x,.int .i64 x.y,.int .i64 x.d,.int .i64 x.e] t)).cell? ((⟨w.heap.size,0,none⟩:Addr).add j)=some u:=by
 have key:∀k:Nat,(w.alloc (.cells #[.int .i64 x.x,.int .i64 x.y,.int .i64 x.d,.int .i64 x.e] t)).cell? ⟨w.heap.size,k,none⟩=(#[Value.int .i64 x.x,.int .i64 x.y,.int .i64 x.d,.int .i64 x.e]:Array Value)[k]? :=fun k=>by unfold World.cell?;simp only[World.alloc_heap_new];rfl
 intro j u h;match j with
 |0=>exact(key 0).trans h
 |1=>exact(key 1).trans h
 |2=>exact(key 2).trans h
 |3=>exact(key 3).trans h
 |k+4=>simp[mN]at h
def BI : Code := Code.region 2 #[{ dst := some 5, op := Op.alloc 40, type := 0, pos := "iter.go:51", after := #[], guard := none }, { dst := none, op := Op.store 40 (Operand.tmp 5) (Operand.tmp 7), type := 0, pos := "iter.go:51", after := #[{ on := 0, ground := Ground.data }, { on := 0, ground := Ground.phase }], guard := none }] false
def QN : Code := Code.block 1 (Code.region 3 #[{ dst := some 8, op := Op.load 37 (Operand.tmp 2), type := 37, pos := "iter.go:52", after := #[], guard := none }, { dst := some 9, op := Op.load 40 (Operand.tmp 5), type := 40, pos := "iter.go:52", after := #[], guard := none }, { dst := some 10, op := Op.buildSlice 37 1 #[(0, Operand.tmp 9)], type := 37, pos := "iter.go:52", after := #[{ on := 1, ground := Ground.data }], guard := none }, { dst := some 11, op := Op.call { callee := Callee.builtin Builtin.append, args := #[Operand.tmp 8, Operand.tmp 10], argTypes := #[37, 37] }, type := 37, pos := "iter.go:52", after := #[{ on := 0, ground := Ground.data }, { on := 2, ground := Ground.data }], guard := none }, { dst := none, op := Op.store 37 (Operand.tmp 2) (Operand.tmp 11), type := 0, pos := "iter.go:52", after := #[{ on := 3, ground := Ground.data }, { on := 3, ground := Ground.chain }, { on := 0, ground := Ground.phase }, { on := 1, ground := Ground.phase }, { on := 2, ground := Ground.phase }, { on := 3, ground := Ground.phase }], guard := none }] false)
def sC (fn:FuncId) (sv:Value) (Bs D:Nat) (st:LoopState) (pend:Option Code):Loop:=
 {state:=st,pending:=pend,fn,tmps:=#[.slice none 0 0,sv,.pointer (some ⟨Bs,0,none⟩),undef,.slice none 0 0,undef,sv,undef,undef,undef,undef,undef,undef],params:=#[7],assign:=BI,body:=QN,defers:=D}
structure ZS (w0:World) (fn:FuncId) (sv:Value) (Bs l D:Nat) (ss:List M) (W:World):Prop where
 box:∃v,W.heap[Bs]? =some (.cells #[v] 37 (0,0))∧W.ownsRow w0.heap.size 40 4 v ss.length (oC ss)∧(v= .slice none 0 0↔ss=[])
 L:W.heap[l]? =some (.loop (sC fn sv Bs D .ready none))
 K:W.heap[D]? =some (.deferred (some []))
 below:Below w0.heap.size w0 W
theorem FQ (w0:World) (fn:FuncId) (sv:Value) (Bs l D B:Nat) (hB:w0.heap.size≤B):AbidesFrom B (ZS w0 fn sv Bs l D):=fun s W W' row h hg hrow=>by
 have hrow':∀r,row=some r→∃o:Obj,W.heap[r]? =some o∧o.isWalk=true:=fun r e=>(hrow r e).2
 obtain⟨v,hv,hr,hn⟩:=h.box
 exact⟨⟨v,(grownBy_keeps hg hrow' hv rfl).trans hv,ownsRow_abides_a hr hg hrow',hn⟩,(grownBy_keeps hg hrow' h.L rfl).trans h.L,(grownBy_keeps hg hrow' h.K rfl).trans h.K,
  h.below.grown hg h.below.size (fun k e=>jZ hB (hrow k e).1)⟩
theorem Qg:(Tryz.prog.info? 40).map (fun i=>(i.zero,i.size,i.bytes))=some (some (.agg #[.int .i64 0,.int .i64 0,.int .i64 0,.int .i64 0]),4,32):=by kernel_rfl
theorem Hj      {F : Fence} {m : Nat} (w0 : World) (fn : FuncId) (hfn : F.fn fn) (sv : Value) (Bs l D : Nat) (hBl : Bs ≠ l) (hDl : D ≠ l) (hDB : D ≠ Bs) (h0B : w0.heap.size ≤ Bs) (h0l : w0.heap.size ≤ l)
    (N : Nat) (hN : N ≤ 1000000) (ss : List M) (x : M) (W : World) (h : ZS   w0 fn sv Bs l D ss W) (hlen : ss.length < N) :
    YieldAt F m Tryz.prog l #[XH  x] W fun e W' => e = .returned (.bool true) ∧ ZS   w0 fn sv Bs l D (ss ++ [x]) W' ∧ KeepsWalks W W' := by
  have hne : (37 : TypeId) ≠ 40 := by decide
  obtain ⟨i0, hi, hz0, hz1, hz2⟩ := info_parts Qg   
  refine ⟨fn, #[.slice none 0 0, sv, .pointer (some ⟨Bs, 0, none⟩), undef, .slice none 0 0, undef, sv, XH  x, undef, undef, undef, undef, undef], BI      , QN    , by simpa [sC   ] using run_yield (P := Tryz.prog) (args := #[XH  x]) h.L rfl, roundIn_of_wpIn hfn ?_⟩
  have hbx : (W.alloc (.cells #[.int .i64 x.x, .int .i64 x.y, .int .i64 x.d, .int .i64 x.e] 40)).heap[W.heap.size]? = some (.cells #[.int .i64 x.x, .int .i64 x.y, .int .i64 x.d, .int .i64 x.e] 40 (0, 0)) := World.alloc_heap_new W _
  have hA := FQ        w0 fn sv Bs l D w0.heap.size (Nat.le_refl _) ss W _ none h (World.grownBy_alloc W (.cells #[.int .i64 x.x, .int .i64 x.y, .int .i64 x.d, .int .i64 x.e] 40) none) (fun r e => by cases e)
  have hlW : l < W.heap.size := (Array.getElem?_eq_some_iff.1 h.L).1
  have hkA : KeepsWalks W (W.alloc (.cells #[.int .i64 x.x, .int .i64 x.y, .int .i64 x.d, .int .i64 x.e] 40)) := KeepsWalks.alloc _ _
  obtain ⟨WA, hWA⟩ : ∃ WA, W.alloc (.cells #[.int .i64 x.x, .int .i64 x.y, .int .i64 x.d, .int .i64 x.e] 40) = WA := ⟨_, rfl⟩
  unfold BI      
  gi_wp2_with gi_round_op_a
  rw [hWA] at hbx hA hkA
  clear hWA
  obtain ⟨v, hv, hrow, _⟩ := hA.box
  have hl : l < WA.heap.size := (Array.getElem?_eq_some_iff.1 hA.L).1
  have hbr := run_beginRound (P := Tryz.prog) hA.L rfl
  obtain ⟨W2, hW2⟩ : ∃ W2, WA.putObj l (.loop { sC    fn sv Bs D .ready none with state := .busy }) = W2 := ⟨_, rfl⟩
  rw [hW2] at hbr
  have hg2 : WA.grownBy W2 (some l) := by rw [← hW2]; exact grownBy_putObj_a _ _ _
  have hk2 : KeepsWalks W W2 := by rw [← hW2]; exact hkA.trans (KeepsWalks.putObj _ hA.L rfl)
  have hx2 : W2.heap[W.heap.size]? = some (.cells #[.int .i64 x.x, .int .i64 x.y, .int .i64 x.d, .int .i64 x.e] 40 (0, 0)) := by rw [← hW2]; exact (World.putObj_heap_other (by omega)).trans hbx
  have hv2 : W2.heap[Bs]? = some (.cells #[v] 37 (0, 0)) := by rw [← hW2]; exact (World.putObj_heap_other hBl).trans hv
  have hK2 : W2.heap[D]? = some (.deferred (some [])) := by rw [← hW2]; exact (World.putObj_heap_other hDl).trans hA.K
  have hL2 : W2.heap[l]? = some (.loop { sC    fn sv Bs D .ready none with state := .busy }) := by rw [← hW2]; exact World.putObj_heap_same hl
  have hrow2 : W2.ownsRow w0.heap.size 40 4 v ss.length (oC    ss) := hrow.kept hg2 (ownsRow_ne_a hrow hA.L (fun cur e => by first | cases e | exact hne (Obj.cells.inj e).2.1))
  have hb2 : Below w0.heap.size w0 W2 := hA.below.grown hg2 hA.below.size (fun k e => by cases e; exact h0l)
  obtain ⟨hc2, hf2⟩ := cell_of_box_a hv2
  have hx20 : W2.cell? ⟨W.heap.size, 0, none⟩ = some (.int .i64 x.x) := by unfold World.cell?; simp only [hx2]; rfl
  have hx21 : W2.cell? ⟨W.heap.size, 1, none⟩ = some (.int .i64 x.y) := by unfold World.cell?; simp only [hx2]; rfl
  have hx22 : W2.cell? ⟨W.heap.size, 2, none⟩ = some (.int .i64 x.d) := by unfold World.cell?; simp only [hx2]; rfl
  have hx23 : W2.cell? ⟨W.heap.size, 3, none⟩ = some (.int .i64 x.e) := by unfold World.cell?; simp only [hx2]; rfl
  have hBlt : Bs < W2.heap.size := (Array.getElem?_eq_some_iff.1 hv2).1
  have hl2 : l < W2.heap.size := (Array.getElem?_eq_some_iff.1 hL2).1
  have hDlt : D < W2.heap.size := (Array.getElem?_eq_some_iff.1 hK2).1
  have ne_of : ∀ {j : Nat} {o : Obj}, W2.heap[j]? = some o → (∀ cur, o ≠ .cells cur 40 (0, 0)) → some j ≠ v.ownBlock := fun hj hno => by
    rcases ownsRow_ne_a hrow2 hj hno with e | e
    · rw [e]; simp
    · exact fun e' => e e'.symm
  clear hW2
  refine ⟨W2, hbr, ?_⟩
  unfold QN    
  gi_wp2_with (first
    | (gi_at_builtin; refine wpListIn_append_own _ rfl _ _ 37 rfl w0.heap.size 40 i0 (.agg #[.int .i64 0, .int .i64 0, .int .i64 0, .int .i64 0]) 4 32 Tryz.underlying37 hi hz0 hz1 hz2 rfl (by decide) _ _ _ rfl (hrow2.alloc _) ⟨W2.heap.size, 0, none⟩ 1 1 (mN     x) rfl rfl (WX        _ _ _) (by simp [mN    , Value.oneCell']) (by simp only [maxLen]; omega) (by omega) (by have := hb2.size; simp; omega) ?_; intro v' w3 hown' hg3 hnil3
       have hv3 : w3.heap[Bs]? = some (.cells #[v] 37 (0, 0)) := (hg3.block Bs (by simp; omega) (ne_of hv2 (fun cur e => by first | cases e | exact hne (Obj.cells.inj e).2.1))).trans ((Below.heap_alloc _ _ Bs hBlt).trans hv2)
       obtain ⟨hc3, hf3⟩ := cell_of_box_a hv3
       obtain ⟨g', cap', cur', rfl, hbase', hgb', hr1, hr2, hr3, hr4⟩ : ∃ g' cap' cur', v' = .slice (some ⟨g', 0, none⟩) (ss.length + 1) cap' ∧ w0.heap.size ≤ g' ∧ w3.heap[g']? = some (.cells cur' 40 (0, 0)) ∧ ss.length + 1 ≤ cap' ∧ cap' ≤ maxLen ∧ cur'.size = cap' * 4 ∧ cur'.toList.take ((ss.length + 1) * 4) = oC    ss ++ mN     x := by
         rcases hown'.2 with ⟨_, h0⟩ | h'
         · exact absurd h0 (by omega)
         · exact h'
       go_frame)
    | gi_round_op_a)
  have hg3' : (W2.alloc (.cells #[.int .i64 x.x, .int .i64 x.y, .int .i64 x.d, .int .i64 x.e] 40)).grownBy w3 v.ownBlock := hg3
  have hL3 : w3.heap[l]? = some (.loop { sC    fn sv Bs D .ready none with state := .busy }) := (hg3'.block l (by simp; omega) (ne_of hL2 (fun cur e => by first | cases e | exact hne (Obj.cells.inj e).2.1))).trans ((Below.heap_alloc _ _ l hl2).trans hL2)
  have hK3 : w3.heap[D]? = some (.deferred (some [])) := (hg3'.block D (by simp; omega) (ne_of hK2 (fun cur e => by first | cases e | exact hne (Obj.cells.inj e).2.1))).trans ((Below.heap_alloc _ _ D hDlt).trans hK2)
  obtain ⟨w4, hw4⟩ : ∃ w4, w3.setCell ⟨Bs, 0, none⟩ (.slice (some ⟨g', 0, none⟩) (ss.length + 1) cap') = w4 := ⟨_, rfl⟩
  rw [hw4]
  have hg4 : w3.grownBy w4 (some Bs) := by rw [← hw4]; exact grownBy_setCell0_a _ _ _
  have hv4 : w4.heap[Bs]? = some (.cells #[.slice (some ⟨g', 0, none⟩) (ss.length + 1) cap'] 37 (0, 0)) := by rw [← hw4]; exact heap_setCell_box_a _ hv3
  have hL4 : w4.heap[l]? = some (.loop { sC    fn sv Bs D .ready none with state := .busy }) := (hg4.block l (Array.getElem?_eq_some_iff.1 hL3).1 (fun e => hBl (by cases e; rfl))).trans hL3
  have hK4 : w4.heap[D]? = some (.deferred (some [])) := (hg4.block D (Array.getElem?_eq_some_iff.1 hK3).1 (fun e => hDB (by cases e; rfl))).trans hK3
  have hrow4 := hown'.kept hg4 (ownsRow_ne_a hown' hv3 (fun cur e => by first | cases e | exact hne (Obj.cells.inj e).2.1))
  have hl4 : l < w4.heap.size := (Array.getElem?_eq_some_iff.1 hL4).1
  have hb3 : Below w0.heap.size w0 w3 := (hb2.alloc hb2.size _).grown hg3' (by have := hb2.size; simp; omega) (fun k e => (hrow2.lt k e).1)
  have hb4 : Below w0.heap.size w0 w4 := hb3.grown hg4 hb3.size (fun k e => by cases e; exact h0B)
  have hk4 : KeepsWalks W w4 := ((hk2.trans (KeepsWalks.alloc _ _)).trans (KeepsWalks.of_grownBy hg3' (ownsRow_not_walk_a (hrow2.alloc _)))).trans (by rw [← hw4]; exact KeepsWalks.setCell _ _ _)
  clear hw4
  refine ⟨_, _, run_endRound none hL4, rfl, ⟨⟨_, (World.putObj_heap_other hBl).trans hv4, ?_, by simp⟩, World.putObj_heap_same hl4, (World.putObj_heap_other hDl).trans hK4, hb4.grown (grownBy_putObj_a _ _ _) hb4.size (fun k e => by cases e; exact h0l)⟩, hk4.trans (KeepsWalks.putObj _ hL4 rfl)⟩
  have := hrow4.kept (grownBy_putObj_a w4 l (.loop { { sC    fn sv Bs D .ready none with state := .busy } with state := if (none : Option Code).isNone then .ready else .done, pending := none })) (ownsRow_ne_a hrow4 hL4 (fun cur e => by first | cases e | exact hne (Obj.cells.inj e).2.1))
  rw [QX        ]
  simpa using this
theorem QO {F:Fence} {n:Nat} (h11:F.fn 189) (hro:F.round=none) (hn:2≤n) (g:Nat) (lb:Array Value) (hFg:F.fn g) (eg:∀args w,(callFunc g args).run Tryz.prog w= .ok (.enter g args) w) (S:List M→Prop) (N:Nat) (hN:N≤1000000) (w:World) (hseq:SeqGives F (n-1) Tryz.prog g lb XH S N w):CallsIn F n Tryz.prog 189 #[.slice none 0 0,.func (.func g) #[] lb] w fun e w'=>∃(v:Value) (ss:List M),e= .returned v∧S ss∧w'.ownsRow w.heap.size 40 4 v ss.length (oC ss)∧(v= .slice none 0 0↔ss=[])∧Below w.heap.size w w':=by
 have h1:1≤n:=by omega
 have hne:(37:TypeId)≠40:=by decide
 refine callsIn_of_wp_marks Tryz.func189 rfl h11 ?_ hro;simp only[Tryz.ntmps189,List.size_toArray,List.length_cons,List.length_nil,Nat.reduceAdd,Nat.reduceSub,Array.replicate_succ,Array.replicate_zero,List.push_toArray,List.append_toArray,List.nil_append,List.cons_append]
 gi_wp2
 refine wpIn_rangeFunc ?_;intro fn hfn;rw[hro];obtain⟨W0,hW0⟩:∃W0,w.alloc (.cells #[.slice none 0 0] 37)=W0:=⟨_,rfl⟩
 have hs0:W0.heap.size=w.heap.size+1:=by rw[←hW0];simp
 have hv0:W0.heap[w.heap.size]? =some (.cells #[.slice none 0 0] 37 (0,0)):=by rw[←hW0];exact World.alloc_heap_new w _
 have hb0:Below w.heap.size w W0:=by rw[←hW0];exact(bL _ w).alloc (Nat.le_refl _) _
 rw[hW0];obtain⟨W1,hW1⟩:∃W1,(W0.alloc (.deferred (some []))).alloc (.loop (sC fn (.func (.func g) #[] lb) w.heap.size W0.heap.size .ready none))=W1:=⟨_,rfl⟩
 have hold:∀k,k<W0.heap.size→W1.heap[k]? =W0.heap[k]? :=fun k hk=>by rw[←hW1];exact(Below.heap_alloc _ _ k (by simp;omega)).trans (Below.heap_alloc _ _ k hk)
 have hb1:Below w.heap.size w W1:=by rw[←hW1];exact(hb0.alloc hb0.size _).alloc (by have:=hb0.size;simp;omega) _
 have hs1:W1.heap.size=W0.heap.size+2:=by rw[←hW1];simp
 have hM:ZS w fn (.func (.func g) #[] lb) w.heap.size (W0.heap.size+1) W0.heap.size [] W1:=
  ⟨⟨_,(hold w.heap.size (by omega)).trans hv0,⟨rfl,.inl ⟨rfl,rfl⟩⟩,by simp⟩,
   by rw[←hW1];have:=World.alloc_heap_new (W0.alloc (.deferred (some []))) (.loop (sC fn (.func (.func g) #[] lb) w.heap.size W0.heap.size .ready none));rwa[World.size_alloc]at this,
   by rw[←hW1];exact(Below.heap_alloc _ _ _ (by simp)).trans (World.alloc_heap_new W0 _),hb1⟩
 refine⟨W0.heap.size+1,[{target:=.collected W0.heap.size,args:=#[]}],W1,{target:=.fn (.func g) lb,args:=#[.func (.yield (W0.heap.size+1)) #[] #[]]},W1,g,
  #[.func (.yield (W0.heap.size+1)) #[] #[]]++lb,W1,?_,?_,?_,?_,fun _=>h1,?_⟩
 ·rw[←hW1];exact run_enterLoop_outer _ _ _ _ _
 ·simp[resolve,go_sem]
 ·intro f' hf';simp[Target.leads]at hf';subst hf';exact hFg
 ·simp[invoke,go_sem,eg]
 ·refine(hseq (W0.heap.size+1) (ZS w fn (.func (.func g) #[] lb) w.heap.size (W0.heap.size+1) W0.heap.size) W1 hb1 (FQ _ _ _ _ _ _ _ hb1.size)
   (fun pre x W hJ hl=>Hj w fn hfn _ w.heap.size (W0.heap.size+1) W0.heap.size (by omega) (by omega) (by omega) (Nat.le_refl _) (by omega) N hN pre x W hJ hl) hM).mono ?_
  rintro e W2 ⟨⟨v0,rfl⟩,ss,hS,h2⟩;obtain⟨v,hv,hrow,hnil⟩:=h2.box;have hend:=run_endLoop (P:=Tryz.prog) h2.L (by simp[sC])
  obtain⟨W3,hW3⟩:∃W3,W2.putObj (W0.heap.size+1) (.loop {sC fn (.func (.func g) #[] lb) w.heap.size W0.heap.size .ready none with state:=.exhausted})=W3:=⟨_,rfl⟩
  rw[hW3]at hend;have hg3:W2.grownBy W3 (some (W0.heap.size+1)):=by rw[←hW3];exact grownBy_putObj_a _ _ _
  have hv3:W3.heap[w.heap.size]? =some (.cells #[v] 37 (0,0)):=by rw[←hW3];exact(World.putObj_heap_other (by omega)).trans hv
  have hK3:W3.heap[W0.heap.size]? =some (.deferred (some [])):=by rw[←hW3];exact(World.putObj_heap_other (by omega)).trans h2.K
  have hrow3:=hrow.kept hg3 (ownsRow_ne_a hrow h2.L (fun cur e=>by first|cases e|exact hne (Obj.cells.inj e).2.1));have hb3:Below w.heap.size w W3:=h2.below.grown hg3 h2.below.size (fun k e=>by cases e;omega)
  obtain⟨hc3,hf3⟩:=cell_of_box_a hv3;clear hW3;refine⟨none,W3,hend,?_⟩
  gi_wp2
  rw[←hs0];refine⟨by simp,.inl ⟨_,_,rfl,run_takeDeferred hK3,?_⟩⟩;exact⟨_,results_tmp rfl _ _ _,v,ss,rfl,hS,hrow3.kept (grownBy_putObj_a _ _ _) (ownsRow_ne_a hrow3 hK3 (fun cur e=>by first|cases e|exact hne (Obj.cells.inj e).2.1)),hnil,hb3.grown (grownBy_putObj_a _ _ _) hb3.size (fun k e=>by cases e;omega)⟩
theorem Bj {F:Fence} {n:Nat} (h8:F.fn 184) (h11:F.fn 189) (hro:F.round=none) (hn:3≤n) (g:Nat) (lb:Array Value) (hFg:F.fn g) (eg:∀args w,(callFunc g args).run Tryz.prog w= .ok (.enter g args) w) (S:List M→Prop) (N:Nat) (hN:N≤1000000) (w:World) (hseq:SeqGives F (n-1-1) Tryz.prog g lb XH S N w):CallsIn F n Tryz.prog 184 #[.func (.func g) #[] lb] w fun e w'=>∃(v:Value) (ss:List M),e= .returned v∧S ss∧w'.ownsRow w.heap.size 40 4 v ss.length (oC ss)∧(v= .slice none 0 0↔ss=[])∧Below w.heap.size w w':=by
 have h1:1≤n:=by omega
 refine callsIn_of_wp Tryz.func184 rfl h8 ?_ hro;simp only[Tryz.ntmps184,List.size_toArray,List.length_cons,List.length_nil,Nat.reduceAdd,Nat.reduceSub,Array.replicate_succ,Array.replicate_zero,List.push_toArray,List.append_toArray,List.nil_append,List.cons_append]
 gi_wp2
 refine(QO h11 hro (by omega) g lb hFg eg S N hN _ hseq).mono ?_;rintro e w' ⟨v,ss,rfl,hS,hrow,hnil,hb⟩
 gi_wp2
 go_ret;exact⟨v,ss,rfl,hS,hrow,hnil,hb⟩
open Go.RowKit Go.Maps Go.Sort Go.Shelf
def BD    :Prop:=
 (∀(Br:Nat) (W:World) (gb cap:Nat) (d:Array OM),Br<W.heap.size→Br≠gb→W.cell? ⟨Br,0,none⟩=some (.func (.func 103) #[] #[])→HoldsK fI     4 W gb 0 d→gb<W.heap.size→d.size<4611686018427387904→
  Calls Tryz.prog 185 #[.slice (some ⟨gb,0,none⟩) d.size cap,.func (.func 180) #[] #[.pointer (some ⟨Br,0,none⟩)]] W fun e w'=>e= .returned (.tuple #[])∧
   ∃d' n os,PermIn 0 d.size d d'∧SortedIn (ltOf fun x y:OM=>c3 (fF  x.1) (fF  y.1)) 0 d.size d'∧w'=sortWorldK fI     4 W gb 0 n d' os)∧
 (∀(p:Option Addr) (cap:Nat) (fv:Value) (W:World),Calls Tryz.prog 185 #[.slice p 0 cap,fv] W fun e w'=>e= .returned (.tuple #[])∧w'=W)
theorem MV:∀(ss:List M) (i c:Nat) (h:i<ss.length),c<4→(oC ss)[i*4+c]? =(mN ss[i])[c]?
 |[],i,c,h,_=>by simp at h
 |x::r,0,c,_,hc=>by have e:oC (x::r)=mN x++oC r:=rfl;rw[e,List.getElem?_append_left (by simp[mN];omega)];simp
 |x::r,i+1,c,h,hc=>by
  have e:oC (x::r)=mN x++oC r:=rfl;have hl:(mN x).length=4:=rfl
  rw[e,List.getElem?_append_right (by rw[hl];omega),hl,show(i+1)*4+c-4=i*4+c by omega];exact MV r i c (by simpa using h) hc
theorem Nd {W:World} {gb:Nat} {cur:Array Value} {t:TypeId} (dO:List OM) (hgb:W.heap[gb]? =some (.cells cur t (0,0))) (r4:cur.toList.take (dO.length*4)=oC (dO.map (·.1))):HoldsK fI 4 W gb 0 dO.toArray:=by
 intro j hj;rw[size_flatK]at hj;have hj':j<dO.length*4:=by simpa using hj
 refine⟨?_,by simp[World.frozen?,hgb]⟩;have h1:(cur.toList.take (dO.length*4))[j]? =(oC (dO.map (·.1)))[j]? :=by rw[r4]
 rw[List.getElem?_take_of_lt hj']at h1;have hi:j / 4<dO.length:=by omega
 have h2:=MV (dO.map (·.1)) (j / 4) (j%4) (by simpa using hi) (by omega);have e2:(dO.map (·.1))[j / 4]'(by simpa using hi)=(dO[j / 4]'hi).1:=List.getElem_map ..
 rw[show j / 4*4+j%4=j by omega,e2]at h2;simp only[World.cell?,hgb,Nat.zero_add];simp only[Option.isSome_none,Bool.false_eq_true,if_false];rw[←Array.getElem?_toList,h1,h2,id,get_flatK _ _ _ _ hj];have hx:dO.toArray[j / 4]! =dO[j / 4]'hi:=by rw[getElem!_pos dO.toArray (j / 4) (by simpa using hi)];simp
 rw[hx];generalize dO[j / 4]'hi=z;have hc:j%4<4:=by omega
 show(fI z)[j%4]? =some (fI z)[j%4]!
 rw[List.getElem?_eq_getElem (show j%4<(fI z).length from hc),getElem!_pos (fI z) (j%4) hc];rfl
structure EV (W:World) (p:Option Addr) (d:List M):Prop where
 here:∀i (h:i<d.length),∃g,p=some ⟨g,0,none⟩∧g<W.heap.size∧W.cell? ⟨g,i*4,none⟩=some (.int .i64 d[i].x)∧W.cell? ⟨g,i*4+1,none⟩=some (.int .i64 d[i].y)∧W.cell? ⟨g,i*4+2,none⟩=some (.int .i64 d[i].d)∧W.cell? ⟨g,i*4+3,none⟩=some (.int .i64 d[i].e)
theorem EV.keep {W W':World} {p:Option Addr} {d:List M} (h:EV W p d) (hs:W.heap.size≤W'.heap.size) (hk:∀g,p=some ⟨g,0,none⟩→W'.heap[g]? =W.heap[g]?):EV W' p d:=⟨fun i hi=>by
 obtain⟨g,hp,hg,c0,c1,c2,c3⟩:=h.here i hi;have hb:=hk g hp
 exact⟨g,hp,by omega,(mB (w:=W) (a:=⟨g,_,none⟩) hb).trans c0,(mB (w:=W) (a:=⟨g,_,none⟩) hb).trans c1,(mB (w:=W) (a:=⟨g,_,none⟩) hb).trans c2,(mB (w:=W) (a:=⟨g,_,none⟩) hb).trans c3⟩⟩
theorem uF {w:World} {g n:Nat} {os:Array Obj} (d:Array OM):w.grownBy (sortWorldK fI 4 w g 0 n d os) (some g):=by
 refine⟨rfl,rfl,rfl,by simp[sortWorldK,putRowK],fun k hk hne=>?_⟩;unfold sortWorldK;rw[heap_grow_old _ _ (by simpa[putRowK]using hk)];have:g≠k:=fun e=>hne (by rw[e])
 simp[putRowK,putRow,mapBlock,Sort.ahead,Array.getElem?_modify,this]
theorem PC {W:World} {gb n:Nat} {os:Array Obj} (d d':Array OM) (hH:HoldsK fI 4 W gb 0 d) (hgl:gb<W.heap.size) (hs:d'.size=d.size):EV (sortWorldK fI 4 W gb 0 n d' os) (some ⟨gb,0,none⟩) (d'.toList.map (·.1)):=⟨fun i hi=>by
 have hK:HoldsK fI 4 (sortWorldK fI 4 W gb 0 n d' os) gb 0 d':=by unfold sortWorldK;exact holdsK_grow (enc:=fI) (k:=4) _ _ _ _ _ (by rw[size_putRowK];exact hgl) (holdsK_putRowK (enc:=fI) (k:=4) _ _ _ d d' (holdsK_ahead (enc:=fI) (k:=4) _ _ _ _ _ hH) hs)
 have hi':i<d'.size:=by simpa using hi
 have hx:d'[i]! =d'[i]:=getElem!_pos d' i hi';have hgs:gb<(sortWorldK fI 4 W gb 0 n d' os).heap.size:=by unfold sortWorldK;rw[Go.Sort.size_grow,size_putRowK];exact jY hgl (Nat.le_add_right _ _)
 have k:∀c:Nat,c<4→_:=fun c hc=>(hK.cell (i:=i) (c:=c) hi' hc).1;have k0:=k 0 (by omega)
 have k1:=k 1 (by omega);have k2:=k 2 (by omega)
 have k3:=k 3 (by omega);rw[hx,Nat.zero_add]at k0 k1 k2 k3;have e:(d'.toList.map (·.1))[i]=(d'[i]).1:=by simp
 rw[e]
 exact⟨gb,rfl,hgs,k0,k1,k2,k3⟩⟩
theorem Kj (hsort:BD) (g:Nat) (lb:Array Value) (eg:∀args w,(callFunc g args).run Tryz.prog w= .ok (.enter g args) w) (S:List M→Prop) (N:Nat) (hN:N≤1000000) (hok:∀ss,S ss→∀m∈ss,m.ok=true) (hle:∀ss,S ss→ss.length≤N) (w:World) (hseq:SeqGives Fence.wide 5 Tryz.prog g lb XH S N w) (Br:Nat) (hB:Br<w.heap.size) (hr:w.cell? ⟨Br,0,none⟩=some (.func (.func 103) #[] #[])):Calls Tryz.prog 178 #[.func (.func g) #[] lb,.func (.func 180) #[] #[.pointer (some ⟨Br,0,none⟩)]] w fun e w'=>∃(p:Option Addr) (cap:Nat) (dO:List OM) (ss:List M),e= .returned (.slice p dO.length cap)∧S ss∧(dO.map (·.1)).Perm ss∧dO.Pairwise (fun a b=>fF a.1≤fF b.1)∧EV w' p (dO.map (·.1))∧(∀k,p=some ⟨k,0,none⟩→w.heap.size≤k∧k<w'.heap.size)∧Below w.heap.size w w':=by
 go_enter Tryz.func178,Tryz.ntmps178;have hcol:=(callsIn_wide (n:=7)).1 (Bj (F:=Fence.wide) (n:=7) trivial trivial rfl (by omega) g lb trivial eg S N hN w hseq)
 go_wp2_with (go_at_call 184;refine hcol.mono ?_;rintro e W ⟨v,ss,rfl,hS,hrow,hnil,hb⟩);rcases hrow.2 with⟨rfl,hz⟩|⟨gb,cap,cur,rfl,hbase,hgb,r1,r2,r3,r4⟩
 ·have hss:ss=[]:=List.eq_nil_of_length_eq_zero hz;subst hss;go_wp2_with (go_at_call 185;refine(hsort.2 none 0 _ W).mono ?_;rintro e w' ⟨rfl,hw⟩;obtain rfl:=hw.symm;clear hw);go_ret;exact⟨none,0,[],[],rfl,hS,List.Perm.refl _,List.Pairwise.nil,⟨fun i h=>by simp at h⟩,fun k e=>(by cases e),hb⟩
 ·obtain⟨dO,hdO⟩:∃dO:List OM,dO.map (·.1)=ss:=⟨ss.pmap (fun m h=>(⟨m,h⟩:OM)) (hok ss hS),by simp[List.map_pmap]⟩
  have hl:dO.length=ss.length:=by rw[←hdO];simp
  rw[←hl]at r4;rw[←hdO]at r4;have hH:HoldsK fI 4 W gb 0 dO.toArray:=Nd dO hgb r4
  have hgl:gb<W.heap.size:=(Array.getElem?_eq_some_iff.1 hgb).1;have hsz:dO.toArray.size<4611686018427387904:=by have:=hle ss hS;simp;omega
  have cS:=hsort.1 Br W gb cap dO.toArray (by have:=hb.size;omega) (by omega) ((hb.cell (p:=⟨Br,0,none⟩) hB).trans hr) hH hgl hsz;simp only[List.size_toArray,hl]at cS;go_wp2_with (go_at_call 185;refine cS.mono ?_;rintro e w' ⟨rfl,d',nn,os,hp,hs,hw⟩;obtain rfl:=hw.symm;clear hw);go_ret;obtain⟨hp1,hp2,hp3⟩:=hp;have hsd:d'.size=dO.length:=by simpa using hp1
  have hperm:d'.toList.Perm dO:=by
   have e1:d'.extract 0 ss.length=d':=by rw[←hl,←hsd];exact Array.extract_size
   have e2:dO.toArray.extract 0 ss.length=dO.toArray:=by rw[←hl];simp
   rw[e1,e2]at hp3;simpa using hp3
  refine⟨some ⟨gb,0,none⟩,cap,d'.toList,ss,?_,hS,?_,?_,PC dO.toArray d' hH hgl hp1,fun k e=>(by cases e;exact⟨hbase,jY hgl (uF d').size⟩),hb.grown (uF d') hb.size (fun j hj=>by cases hj;exact hbase)⟩
  ·rw[show d'.toList.length=ss.length by simp;omega];rfl
  ·rw[←hdO];exact hperm.map _
  ·rw[List.pairwise_iff_getElem];intro i j hi hj hij;have hi':i<d'.size:=by simpa using hi
   have hj':j<d'.size:=by simpa using hj
   have:=hs i j (Nat.zero_le _) hij (by omega);rw[getElem!_pos d' i hi',getElem!_pos d' j hj',Si]at this;simp at this;simpa using this
theorem uW {α:Type} [DecidableEq α]:∀(l r:List α),l.Nodup→(∀x∈l,x∈r)→l.length≤r.length
 |[],_,_,_=>Nat.zero_le _
 |x::l,r,hn,hs=>by
  rw[List.nodup_cons]at hn;have hx:x∈r:=hs x (List.mem_cons_self ..)
  have:=uW l (r.erase x) hn.2 (fun y hy=>(List.mem_erase_of_ne (fun e:y=x=>hn.1 (e▸hy))).2 (hs y (List.mem_cons_of_mem _ hy)));rw[List.length_erase_of_mem hx]at this;have:0<r.length:=List.length_pos_of_mem hx
  simp only[List.length_cons];omega
theorem Fu {w:World} {b n:Nat} {D:DataW Unit} (h:w.ownsMap Tryz.prog 40 (plainElem Tryz.prog 138) b n D):Maps.size D≤n:=by obtain⟨es,clock,h1,F,h3,rfl⟩:=h;rw[size_eq,length_read];exact h3
theorem KW {w:World} {b n:Nat} {D:DataW Unit} (h:w.ownsMap Tryz.prog 40 (plainElem Tryz.prog 138) b n D) (ss:List M) (hk:∀kl,Maps.has D kl=true→∃m∈ss,kl=eI m):Maps.size D≤ss.length:=by
 have ht:=h.tidy nA;obtain⟨es,clock,h1,F,h3,hD⟩:=h;obtain⟨L,hL,hp⟩:=ht;have e:L=(es.toList.map (WideElems.rg Tryz.prog 40 (plainElem Tryz.prog 138))).foldr DataW.insert []:=by rw[hL]at hD;exact DataW.map.inj hD
 have hkeys:∀p∈L,∃m∈ss,p.1=eI m:=fun p hpL=>by
  refine hk p.1 ?_;rw[hL,has_eq,List.any_eq_true];refine⟨p,hpL,?_⟩;have hmem:p∈es.toList.map (WideElems.rg Tryz.prog 40 (plainElem Tryz.prog 138)):=by rw[e]at hpL;exact(WideShapes.sorted_perm _).mem_iff.1 hpL
  obtain⟨v,hv⟩:=fit_keys F p hmem;exact WideAt.sameKey_self (nA.key hv)
 rw[hL,size_eq]
 letI:DecidableEq Lit:=fun a b=>Classical.propDecidable (a=b)
 have:=uW (L.map (·.1)) (ss.map eI) (by rw[List.Nodup,List.pairwise_map];exact hp) (fun x hx=>by
  obtain⟨p,hpL,rfl⟩:=List.mem_map.1 hx;obtain⟨m,hm,he⟩:=hkeys p hpL;rw[he]
  exact List.mem_map_of_mem hm)
 simpa using this
theorem ZJ {l:List OM} (h:l.Pairwise (fun a b=>fF a.1≤fF b.1)) (hn:(l.map (·.1)).Nodup):l.Pairwise (fun a b=>fF a.1<fF b.1):=by
 rw[List.Nodup,List.pairwise_map]at hn;refine(h.and hn).imp ?_;rintro a b ⟨h1,h2⟩;rcases Int.lt_or_eq_of_le h1 with h|h
 ·exact h
 ·exact absurd (KN a.2 b.2 h) h2
theorem Il (hsort:BD) (w:World) (b n:Nat) (D:DataW Unit) (hown:w.ownsMap Tryz.prog 40 (plainElem Tryz.prog 138) b n D) (hks:∀kl,Maps.has D kl=true→∃m:M,m.ok=true∧kl=eI m) (hn:n≤1000000):Calls Tryz.prog 169 #[.map (some b),.func (.func 103) #[] #[]] w fun e w'=>∃(p:Option Addr) (cap:Nat) (dO:List OM),e= .returned (.slice p dO.length cap)∧dO.Pairwise (fun a b=>fF a.1<fF b.1)∧(∀m:M,m.ok=true→(m∈dO.map (·.1)↔Maps.has D (eI m)=true))∧dO.length=Maps.size D∧EV w' p (dO.map (·.1))∧(∀k,p=some ⟨k,0,none⟩→w.heap.size≤k∧k<w'.heap.size)∧Below w.heap.size w w':=by
 have hN:Maps.size D≤1000000:=jZ (Fu hown) hn;obtain⟨W1,hW1⟩:∃W1,w.alloc (.cells #[.func (.func 103) #[] #[]] 84)=W1:=⟨_,rfl⟩
 obtain⟨W2,hW2⟩:∃W2,W1.alloc (.cells #[.map (some b)] 169)=W2:=⟨_,rfl⟩
 have hs1:W1.heap.size=w.heap.size+1:=by rw[←hW1];simp
 have hs2:W2.heap.size=w.heap.size+2:=by rw[←hW2];simp[hs1]
 have hb1:Below w.heap.size w W1:=by rw[←hW1];exact(bL _ w).alloc (Nat.le_refl _) _
 have hb2:Below w.heap.size w W2:=by rw[←hW2];exact hb1.alloc hb1.size _
 have hr1:W1.cell? ⟨w.heap.size,0,none⟩=some (.func (.func 103) #[] #[]):=by rw[←hW1];exact(Boxed.new w _ _).cell
 have hr2:W2.cell? ⟨w.heap.size,0,none⟩=some (.func (.func 103) #[] #[]):=by rw[←hW2];exact(mB (w:=W1) (a:=⟨w.heap.size,0,none⟩) (Below.heap_alloc W1 _ w.heap.size (by omega))).trans hr1
 have hm2:W2.cell? ⟨w.heap.size+1,0,none⟩=some (.map (some b)):=by rw[←hs1,←hW2];exact(Boxed.new W1 _ _).cell
 have hown2:W2.ownsMap Tryz.prog 40 (plainElem Tryz.prog 138) b n D:=by rw[←hW2,←hW1];exact(hown.alloc _).alloc _
 have hseq:SeqGives Fence.wide 5 Tryz.prog 186 #[.pointer (some ⟨w.heap.size+1,0,none⟩)] XH (QL D) (Maps.size D) W2:=XV trivial rfl (by omega) _ b n D W2 (by omega) hks hm2 hown2;have hS:=Kj hsort 186 _ (enters_of Tryz.func186 (by kernel_rfl) rfl) (QL D) _ hN (fun ss h=>h.2.1) (fun ss h=>h.2.2.2) W2 hseq w.heap.size (by omega) hr2
 have hK:=(callsIn_wide (n:=5)).1 (Qk (F:=Fence.wide) (n:=5) trivial rfl (some b) W1);rw[hs1]at hK;clear hseq hm2 hr2 hr1;go_enter Tryz.func169,Tryz.ntmps169
 go_wp2_with (first
  |(go_at_call 179;refine hK.mono ?_;rintro e W ⟨rfl,hw⟩;obtain rfl:=hw.trans hW2;clear hw)
  |(go_at_call 178;refine hS.mono ?_;rintro e W3 ⟨p,cap,dO,ss,rfl,hS3,hp3,hs3,hv3,hp4,hb3⟩))
 go_ret;have hnd:(dO.map (·.1)).Nodup:=hp3.symm.nodup hS3.1
 have hmem:∀m:M,m.ok=true→(m∈dO.map (·.1)↔Maps.has D (eI m)=true):=fun m hm=>by rw[hp3.mem_iff];exact hS3.2.2.1 m hm
 refine⟨p,cap,dO,rfl,ZJ hs3 hnd,hmem,?_,hv3,fun k e=>(by have:=hp4 k e;omega),hb2.trans (hb3.mono (by omega))⟩;have h1:dO.length=ss.length:=by have:=hp3.length_eq;simpa using this
 have h2:=KW hown ss (fun kl hkl=>by
  obtain⟨m,hm,rfl⟩:=hks kl hkl
  exact⟨m,(hS3.2.2.1 m hm).2 hkl,rfl⟩)
 have h3:=hS3.2.2.2;omega
end Go.Proofs.YtdidlcjhodejjaaGreat
