/-
  A term put into a sum, in the model.
-/
import Derived.Test.YtdidlcjhodejjaaGreatUad
import Derived.Test.YtdidlcjhodejjaaGreatUab
import Derived.Test.YtdidlcjhodejjaaGreatUaa
import Derived.ProofKit
import Derived.Maps.OwnSet
import Derived.Maps.OwnOps
import Derived.Maps.Views
import Derived.Maps.AppendAt
import Derived.Test.YtdidlcjhodejjaaGreatUag
namespace Go.Proofs.YtdidlcjhodejjaaGreat
open Go.RowKit
set_option linter.unusedVariables false
def putT (c:Int) (m:M) (L:List T):List T:=if c=0 then L else addT (lf L) L.length (fun _=>⟨c,m⟩) 1 0 0
def Cok (L:List T):Prop:=∀ t∈L,0≤t.c∧t.c≤100
theorem lf_mem {L:List T} {i:Nat} (h:i<L.length):lf L i∈L:=by
 unfold lf
 rw [List.getD_eq_getElem?_getD,List.getElem?_eq_getElem h]
 exact List.getElem_mem h
theorem Cok.at {L:List T} (h:Cok L):∀ i,i<L.length→0≤(lf L i).c∧(lf L i).c≤100:=fun i hi=>h _ (lf_mem hi)
theorem putT_len (c:Int) (m:M) (L:List T):(putT c m L).length≤L.length+1:=by
 unfold putT
 split
 ·omega
 ·have:=addT_len (lf L) L.length (fun _=>⟨c,m⟩) 1 0 0
  omega
theorem rd_one (w:World) (t:T):Rd (w.alloc (.cells #[.int .i64 t.c,.int .i64 t.m.x,.int .i64 t.m.y,.int .i64 t.m.d,.int .i64 t.m.e] 42)) (some ⟨w.heap.size,0,none⟩) 1 1 (fun _=>t):=by
 refine ⟨Nat.le_refl _,by omega,.inr ⟨w.heap.size,0,rfl,by simp,fun i hi=>?_⟩⟩
 obtain rfl:i=0:=by omega
 exact ⟨by rw [World.cell?_alloc_at _ _ _ _ rfl];rfl,by rw [World.cell?_alloc_at _ _ _ _ rfl];rfl,by rw [World.cell?_alloc_at _ _ _ _ rfl];rfl,by rw [World.cell?_alloc_at _ _ _ _ rfl];rfl,by rw [World.cell?_alloc_at _ _ _ _ rfl];rfl⟩
set_option maxRecDepth 100000 in
set_option maxHeartbeats 2000000 in
theorem l4PutS (w:World) (lo:Nat) (v:Value) (L:List T) (c x y d e:Int) (ho:w.ownsRow lo 42 5 v L.length (cellsL L)) (hlo:lo≤w.heap.size) (hl:L.length≤1000) (hL:Cok L) (h0:0≤c) (h1:c≤100) :
  Calls Tryz.prog 143 #[v,.int .i64 c,.agg #[.int .i64 x,.int .i64 y,.int .i64 d,.int .i64 e]] w fun r w'=>∃ v',r=.returned v'∧Below w.heap.size w w'∧w'.ownsRow lo 42 5 v' (putT c ⟨x,y,d,e⟩ L).length (cellsL (putT c ⟨x,y,d,e⟩ L)):=by
 by_cases hc:c=0
 ·subst hc
  have e1:putT 0 ⟨x,y,d,e⟩ L=L:=by simp [putT]
  rw [e1]
  have HO:=Hid.mk' (owns_below ho (bel_one w (.cells #[.int .i64 x,.int .i64 y,.int .i64 d,.int .i64 e] 40)))
  clear ho e1
  go_enter Tryz.func143,Tryz.ntmps143
  go_wp2
  go_ret
  exact ⟨_,rfl,bel_one w _,HO.out⟩
 ·have hcb:(c == 0)=false:=by simp [hc]
  have e1:putT c ⟨x,y,d,e⟩ L=addT (lf L) L.length (fun _=>⟨c,⟨x,y,d,e⟩⟩) 1 0 0:=by simp [putT,hc]
  rw [e1]
  obtain ⟨a,cap,rfl,hout⟩:=out_of_owns ho (by omega)
  have HR:=Hid.mk' hout.1
  clear ho hout hc e1
  go_enter Tryz.func143,Tryz.ntmps143
  go_wp2_with fail
  have ha:=Hid.mk' ((HR.out.below (bel_one w (.cells #[.int .i64 x,.int .i64 y,.int .i64 d,.int .i64 e] 40))).below (bel_one _ (.cells #[.int .i64 c,.int .i64 x,.int .i64 y,.int .i64 d,.int .i64 e] 42)))
  have hb:=rd_one (w.alloc (.cells #[.int .i64 x,.int .i64 y,.int .i64 d,.int .i64 e] 40)) ⟨c,⟨x,y,d,e⟩⟩
  have hb2:Rd ((w.alloc (.cells #[.int .i64 x,.int .i64 y,.int .i64 d,.int .i64 e] 40)).alloc (.cells #[.int .i64 c,.int .i64 x,.int .i64 y,.int .i64 d,.int .i64 e] 42)) (some ⟨w.heap.size+1,0,none⟩) 1 1 (fun _=>⟨c,⟨x,y,d,e⟩⟩):=by simpa using hb
  have hz:=Hid.mk' (bel_next (bel_one w (.cells #[.int .i64 x,.int .i64 y,.int .i64 d,.int .i64 e] 40)) (bel_one _ (.cells #[.int .i64 c,.int .i64 x,.int .i64 y,.int .i64 d,.int .i64 e] 42)))
  clear hb
  generalize ((w.alloc (.cells #[.int .i64 x,.int .i64 y,.int .i64 d,.int .i64 e] 40)).alloc (.cells #[.int .i64 c,.int .i64 x,.int .i64 y,.int .i64 d,.int .i64 e] 42))=W at ha hb2 hz ⊢
  refine (l3AddS _ _ _ _ _ _ _ (lf L) (fun _=>⟨c,⟨x,y,d,e⟩⟩) ha.out hb2 (by omega) hL.at (fun _ _=>⟨h0,h1⟩)).mono ?_
  rintro r w1 ⟨v',rfl,hb1,hown⟩
  have HB:=Hid.mk' (bel_next hz.out hb1)
  have HO:=Hid.mk' (owns_lower hown (Nat.le_trans hlo hz.out.size))
  clear hb2 hb1 hown ha hz HR
  go_wp2
  go_ret
  exact ⟨_,rfl,HB.out,HO.out⟩
end Go.Proofs.YtdidlcjhodejjaaGreat
namespace Go.Proofs.YtdidlcjhodejjaaGreat
open Go.RowKit Go.Maps
set_option linter.unusedVariables false
theorem laidOutK:laidOutB Tryz.prog=true:=by kernel_rfl
theorem lawM:Keyed Tryz.prog 40:=Keyed.of_law (deep_law_laid laidOutK (m:=2) (by omega) (of_decide_eq_true (by kernel_rfl)) (by kernel_rfl) (by kernel_rfl))
theorem wf15 {n:Int} (h0:0≤n) (h1:n≤15):(Lit.int .i64 n).wf=true:=WalkArith.wf_i64 (by omega)
def keyM (m:M):Lit:=.string (keyBytes [.int .i64 m.x,.int .i64 m.y,.int .i64 m.d,.int .i64 m.e])
theorem keyOfM {m:M} (h:m.ok=true):keyOf Tryz.prog 40 (.agg #[.int .i64 m.x,.int .i64 m.y,.int .i64 m.d,.int .i64 m.e])=some (keyM m):=by
 obtain ⟨x1,x2,y1,y2,d1,d2,e1,e2⟩:=M.ok_iff.1 h
 have w1:=wf15 x1 x2
 have w2:=wf15 y1 y2
 have w3:=wf15 d1 d2
 have w4:=wf15 e1 e2
 have hk:Tryz.prog.keyType 40=true:=by kernel_rfl
 have hc:Tryz.prog.cellsOf 40=4:=by kernel_rfl
 have h1:Tryz.prog.cellsOf 3=1:=by kernel_rfl
 obtain ⟨D,hD⟩:∃ D,Tryz.prog.types.size+1=D+1+1:=⟨Tryz.prog.types.size - 1,by have:0<Tryz.prog.types.size:=of_decide_eq_true (by kernel_rfl);omega⟩
 unfold keyOf
 simp only [Tryz.underlying40,hk,hD,Value.formed,hc]
 simp [Program.keyLits,Tryz.underlying40,hc,h1,w1,w2,w3,w4,Value.cells,keyM]
theorem zeroN (w:World):(zeroValue 138).run Tryz.prog w=.ok (.int .i64 0) w:=by kernel_rfl
theorem wf100 {n:Int} (h0:0≤n) (h1:n≤100):(Lit.int .i64 n).wf=true:=WalkArith.wf_i64 (by omega)
theorem ownsMap_more {w:World} {P:Program} {k:TypeId} {R:Value→Option (DataW Unit × List MemPlace)} {b n n':Nat} {D:DataW Unit} (h:w.ownsMap P k R b n D) (hn:n≤n'):w.ownsMap P k R b n' D:=by
 obtain ⟨es,clock,h1,h2,h3,h4⟩:=h
 exact ⟨es,clock,h1,h2,Nat.le_trans h3 hn,h4⟩
def addD (D:DataW Unit) (m:M) (v:Int):DataW Unit:=if v=0 then D.del (keyM m) else D.put (keyM m) (.lit (.int .i64 v))
set_option maxHeartbeats 1000000 in
theorem sumAdd (b n:Nat) (D:DataW Unit) (c0 c:Int) (m:M) (w:World) (hm:m.ok=true) (hown:w.ownsMap Tryz.prog 40 (plainElem Tryz.prog 138) b n D) (hn:n<maxLen)
  (hat:D.atKey (keyM m) (.lit (.int .i64 0))=.lit (.int .i64 c0)) (a0:0≤c0) (a1:c0≤100) (h0:0≤c) (h1:c≤100) :
  Calls Tryz.prog 165 #[.map (some b),.int .i64 c,.agg #[.int .i64 m.x,.int .i64 m.y,.int .i64 m.d,.int .i64 m.e]] w fun e w'=>e=.returned (.tuple #[])∧w'.ownsMap Tryz.prog 40 (plainElem Tryz.prog 138) b (n+1) (addD D m ((c0+c) % 101))∧w.grownBy w' (some b):=by
 have hkey:=keyOfM hm
 have r0:0≤(c0+c) % 101:=by omega
 have r1:(c0+c) % 101≤100:=by omega
 have hg0:=World.grownBy_alloc w (.cells #[.int .i64 m.x,.int .i64 m.y,.int .i64 m.d,.int .i64 m.e] 40) (some b)
 have ho0:=hown.alloc (.cells #[.int .i64 m.x,.int .i64 m.y,.int .i64 m.d,.int .i64 m.e] 40)
 by_cases hz:(c0+c) % 101=0
 ·have e1:addD D m ((c0+c) % 101)=D.del (keyM m):=by simp [addD,hz]
  rw [e1]
  go_enter Tryz.func165,Tryz.ntmps165
  go_wp2_with (first
   | (at_lookup;refine wpList_lookup_own_int _ rfl _ _ 170 rfl 40 138 .i64 lawM Tryz.underlying170 Tryz.underlying138 (zeroN _) b n D rfl ho0 _ _ rfl hkey ?_;intro c1 hat1 hwc1;obtain rfl:c1=c0:=(by rw [hat] at hat1;simpa using hat1.symm))
   | (go_at_call 176;refine (plus _ _ _ a0 a1 h0 h1).mono ?_;rintro r w2 ⟨rfl,hw⟩;obtain rfl:=hw.symm;clear hw)
   | (at_delete;refine wpList_delete_own _ rfl _ _ 170 40 rfl 138 lawM Tryz.underlying170 _ b n D rfl ho0 _ _ rfl hkey ?_;intro w1 hown1 hturn1)
   | go_in)
  refine bodyPost_ret (results_none rfl _ _ _) rfl ?_
  exact ⟨rfl,ownsMap_more hown1 (Nat.le_succ _),hg0.trans hturn1.grown⟩
 ·have e1:addD D m ((c0+c) % 101)=D.put (keyM m) (.lit (.int .i64 ((c0+c) % 101))):=by simp [addD,hz]
  rw [e1]
  have hzb:((c0+c) % 101 == 0)=false:=by simpa using hz
  go_enter Tryz.func165,Tryz.ntmps165
  go_wp2_with (first
   | (at_lookup;refine wpList_lookup_own_int _ rfl _ _ 170 rfl 40 138 .i64 lawM Tryz.underlying170 Tryz.underlying138 (zeroN _) b n D rfl ho0 _ _ rfl hkey ?_;intro c1 hat1 hwc1;obtain rfl:c1=c0:=(by rw [hat] at hat1;simpa using hat1.symm))
   | (go_at_call 176;refine (plus _ _ _ a0 a1 h0 h1).mono ?_;rintro r w2 ⟨rfl,hw⟩;obtain rfl:=hw.symm;clear hw)
   | (at_mapUpdate;refine wpList_mapUpdate_own _ rfl _ _ _ 170 rfl 40 138 lawM Tryz.underlying170 _ b n D rfl ho0 hn _ _ _ rfl rfl hkey _ [] (plainElem_int Tryz.underlying138 (wf100 r0 r1)) ?_;intro w1 hown1 hgrow1)
   | go_in)
  go_end0
  exact ⟨rfl,hown1,hg0.trans hgrow1⟩
end Go.Proofs.YtdidlcjhodejjaaGreat
namespace Go.Proofs.YtdidlcjhodejjaaGreat
open Go.RowKit Go.Maps
set_option linter.unusedVariables false
theorem keyM_inj {a b:M} (ha:a.ok=true) (hb:b.ok=true) (h:keyM a=keyM b):a=b:=by
 have h1:=keyOfM ha
 have h2:=keyOfM hb
 rw [← h] at h2
 have h3:=lawM.inj h1 h2
 cases a;cases b
 simpa using h3
def SumR (w:World) (b n:Nat) (c:M→Int):Prop:=
 ∃ D:DataW Unit,w.ownsMap Tryz.prog 40 (plainElem Tryz.prog 138) b n D∧(∀ m,0≤c m∧c m≤100) ∧
  (∀ m:M,m.ok=true→D.atKey (keyM m) (.lit (.int .i64 0))=.lit (.int .i64 (c m))∧(Maps.has D (keyM m)=true ↔ c m≠0))∧(∀ kl,Maps.has D kl=true→∃ m:M,m.ok=true∧kl=keyM m)
def meq (a b:M):Bool:=decide (a.x=b.x∧a.y=b.y∧a.d=b.d∧a.e=b.e)
theorem meq_iff {a b:M}:meq a b=true ↔ a=b:=by cases a;cases b;simp [meq]
def updC (c:M→Int) (m:M) (v:Int) (x:M):Int:=if meq x m=true then (c m+v) % 101 else c x
theorem updC_same (c:M→Int) (m:M) (v:Int):updC c m v m=(c m+v) % 101:=if_pos (meq_iff.2 rfl)
theorem updC_other {c:M→Int} {m x:M} {v:Int} (h:x≠m):updC c m v x=c x:=if_neg (fun e=>h (meq_iff.1 e))
theorem SumR.grown {w w':World} {b n:Nat} {c:M→Int} {row:Option Nat} (h:SumR w b n c) (hg:w.grownBy w' row) (hne:some b≠row):SumR w' b n c:=by
 obtain ⟨D,⟨es,clock,h1,h2,h3,h4⟩,h5⟩:=h
 have hlt:b<w.heap.size:=by
  rcases Nat.lt_or_ge b w.heap.size with h | h
  ·exact h
  ·rw [Array.getElem?_eq_none h] at h1;cases h1
 exact ⟨D,⟨es,clock,(hg.block b hlt hne).trans h1,h2,h3,h4⟩,h5⟩
theorem sumAddR (b n:Nat) (c:M→Int) (v:Int) (m:M) (w:World) (hm:m.ok=true) (h:SumR w b n c) (hn:n<maxLen) (h0:0≤v) (h1:v≤100) :
  Calls Tryz.prog 165 #[.map (some b),.int .i64 v,.agg #[.int .i64 m.x,.int .i64 m.y,.int .i64 m.d,.int .i64 m.e]] w fun e w'=>e=.returned (.tuple #[])∧SumR w' b (n+1) (updC c m v)∧w.grownBy w' (some b):=by
 obtain ⟨D,hown,hc,hat,hks⟩:=h
 have hD:IsMap D:=(hown.tidy lawM).isMap
 have hK:WideAt.IsKeyLit (keyM m):=lawM.key (keyOfM hm)
 refine (sumAdd b n D (c m) v m w hm hown hn (hat m hm).1 (hc m).1 (hc m).2 h0 h1).mono ?_
 rintro e w' ⟨rfl,ho,hg⟩
 refine ⟨rfl,⟨_,ho,fun x=>?_,fun x hx=>?_,fun kl hkl=>?_⟩,hg⟩
 ·unfold updC
  split
  ·omega
  ·exact hc x
 ·by_cases hxm:x=m
  ·subst hxm
   rw [updC_same]
   unfold addD
   split
   ·rename_i hz
    rw [atKey_del_same,has_del_same,hz]
    exact ⟨rfl,by simp⟩
   ·rename_i hz
    rw [atKey_put_same hD hK,has_put_same hD hK]
    exact ⟨rfl,by simp [hz]⟩
  ·have hne:keyM x≠keyM m:=fun e=>hxm (keyM_inj hx hm e)
   rw [updC_other hxm]
   unfold addD
   split
   ·rw [atKey_del_other hne,has_del_other hne];exact hat x hx
   ·rw [atKey_put_other hne,has_put_other hne];exact hat x hx
 ·by_cases hkm:kl=keyM m
  ·exact ⟨m,hm,hkm⟩
  ·unfold addD at hkl
   split at hkl
   ·rw [has_del_other hkm] at hkl;exact hks kl hkl
   ·rw [has_put_other hkm] at hkl;exact hks kl hkl
end Go.Proofs.YtdidlcjhodejjaaGreat
namespace Go.Proofs.YtdidlcjhodejjaaGreat
open Go.RowKit
set_option linter.unusedVariables false
theorem fromC_shift (f:Nat→T) (m:M):∀ (u i:Nat),fromC f u (i+1) m=fromC (fun j=>f (j+1)) u i m
 | 0,_=>rfl
 | u+1,i=>by rw [fromC,fromC,fromC_shift f m u (i+1)]
theorem fromC_lf (m:M):∀ L:List T,fromC (lf L) L.length 0 m=coef L m
 | []=>rfl
 | t :: r=>by
  have e:(fun j=>lf (t :: r) (j+1))=lf r:=by funext j;simp [lf]
  have e0:lf (t :: r) 0=t:=rfl
  rw [List.length_cons,fromC,e0,coef,fromC_shift,e,fromC_lf m r]
theorem fl_lf {L:List T} (h:Falls L):Fl (lf L) L.length:=by
 have at_:∀ i (hi:i<L.length),lf L i=L[i]:=fun i hi=>by unfold lf;rw [List.getD_eq_getElem?_getD,List.getElem?_eq_getElem hi];rfl
 refine ⟨fun j i hji hi=>?_,fun i hi=>?_⟩
 ·rw [at_ i hi,at_ j (by omega)]
  exact (List.pairwise_iff_getElem.1 h.1) j i (by omega) hi hji
 ·rw [at_ i hi]
  exact h.2 _ (List.getElem_mem hi)
theorem coef_range {L:List T} (h:Falls L) (m:M):0≤coef L m∧coef L m≤100:=by
 induction L with
 | nil=>simp [coef]
 | cons t r ih=>
  rw [coef]
  split
  ·have:=h.2 t (List.mem_cons_self ..);omega
  ·exact ih h.tail
theorem falls_nil:Falls []:=⟨List.Pairwise.nil,fun t h=>by cases h⟩
def addL (K X:List T):List T:=addT (lf K) K.length (lf X) X.length 0 0
theorem addL_facts {K X:List T} (hK:Falls K) (hX:Falls X):Falls (addL K X)∧∀ m,coef (addL K X) m=(coef K m+coef X m) % 101:=by
 obtain ⟨_,h2,h3⟩:=mrg_facts (fl_lf hK) (fl_lf hX) (K.length - 0+(X.length - 0)) 0 0 (Nat.le_refl _)
 refine ⟨h2,fun m=>(h3 m).trans ?_⟩
 rw [Nat.sub_zero,Nat.sub_zero,fromC_lf,fromC_lf]
theorem putT_facts {L:List T} (hL:Falls L) {c:Int} {m:M} (hm:m.ok=true) (c0:0≤c) (c1:c≤100):Falls (putT c m L)∧∀ x,coef (putT c m L) x=updC (coef L) m c x:=by
 unfold putT
 by_cases hc:c=0
 ·rw [if_pos hc]
  refine ⟨hL,fun x=>?_⟩
  unfold updC
  split
  ·rename_i hx
   have:=coef_range hL m
   rw [meq_iff.1 hx,hc]
   omega
  ·rfl
 ·rw [if_neg hc]
  have G:Fl (fun _=>(⟨c,m⟩:T)) 1:=⟨fun j i h1 h2=>by omega,fun i hi=>⟨hm,by show 1≤c;omega,c1⟩⟩
  obtain ⟨_,h2,h3⟩:=mrg_facts (fl_lf hL) G (L.length - 0+(1 - 0)) 0 0 (Nat.le_refl _)
  refine ⟨h2,fun x=>(h3 x).trans ?_⟩
  rw [Nat.sub_zero,Nat.sub_zero,fromC_lf]
  show (coef L x+(if meqB m x=true then c else 0)) % 101=_
  have hr:=coef_range hL x
  unfold updC
  by_cases hx:x=m
  ·subst hx
   rw [if_pos (meqB_iff.2 rfl),if_pos (meq_iff.2 rfl)]
  ·rw [if_neg (fun e=>hx (meqB_iff.1 e).symm),if_neg (fun e=>hx (meq_iff.1 e))]
   omega
def putAll (xs:List T) (L:List T):List T:=xs.foldl (fun L t=>putT t.c t.m L) L
def addAllT (c:M→Int) (xs:List T):M→Int:=xs.foldl (fun c t=>updC c t.m t.c) c
def TOK (xs:List T):Prop:=∀ t∈xs,t.m.ok=true∧0≤t.c∧t.c≤100
theorem putAll_facts:∀ (xs:List T) (L:List T),TOK xs→Falls L→Falls (putAll xs L)∧coef (putAll xs L)=addAllT (coef L) xs
 | [],L,_,hL=>⟨hL,rfl⟩
 | t :: r,L,hx,hL=>by
  have h1:=hx t (List.mem_cons_self ..)
  have h2:=putT_facts hL h1.1 h1.2.1 h1.2.2
  have h3:=putAll_facts r (putT t.c t.m L) (fun s hs=>hx s (List.mem_cons_of_mem _ hs)) h2.1
  refine ⟨h3.1,?_⟩
  show coef (putAll r (putT t.c t.m L))=addAllT (updC (coef L) t.m t.c) r
  rw [h3.2,funext h2.2]
theorem addAllT_add:∀ (xs:List T) (c:M→Int) (m:M),TOK xs→(∀ m,0≤c m∧c m≤100)→addAllT c xs m=(c m+addAllT (fun _=>0) xs m) % 101
 | [],c,m,_,hc=>by
  have:=hc m
  show c m=(c m+0) % 101
  omega
 | t :: r,c,m,hx,hc=>by
  have h1:=hx t (List.mem_cons_self ..)
  have hr:∀ (d:M→Int),(∀ m,0≤d m∧d m≤100)→∀ m,0≤updC d t.m t.c m∧updC d t.m t.c m≤100:=fun d hd m=>by
   unfold updC
   split
   ·omega
   ·exact hd m
  have hz:∀ m:M,(0:Int)≤(fun _=>0:M→Int) m∧(fun _=>0:M→Int) m≤100:=fun _=>⟨Int.le_refl _,by show (0:Int)≤100;decide⟩
  have e1:=addAllT_add r (updC c t.m t.c) m (fun s hs=>hx s (List.mem_cons_of_mem _ hs)) (hr c hc)
  have e2:=addAllT_add r (updC (fun _=>0) t.m t.c) m (fun s hs=>hx s (List.mem_cons_of_mem _ hs)) (hr _ hz)
  show addAllT (updC c t.m t.c) r m=(c m+addAllT (updC (fun _=>0) t.m t.c) r m) % 101
  rw [e1,e2]
  unfold updC
  by_cases hx:m=t.m
  ·subst hx
   rw [if_pos (meq_iff.2 rfl),if_pos (meq_iff.2 rfl)]
   clear e1 e2
   dsimp only
   omega
  ·rw [if_neg (fun e=>hx (meq_iff.1 e)),if_neg (fun e=>hx (meq_iff.1 e))]
   clear e1 e2
   dsimp only
   omega
def mulO:Option (List T)→List T × Bool
 | some K=>(K,true)
 | none=>([],false)
theorem cok_falls {L:List T} (h:Falls L):Cok L:=fun t ht=>by have:=h.2 t ht;omega
def Good (f:Nat→T) (n:Nat):Prop:=∀ i,i<n→(f i).m.ok=true∧0≤(f i).c∧(f i).c≤100
theorem good_ok {n:Nat} {f:Nat→T} (h:polOk n f=true):n≤400∧Good f n:=by
 have hp:=h
 simp only [polOk,decide_eq_true_eq] at hp
 refine ⟨hp.1,fun i hi=>?_⟩
 have:=(fl_of_ok h).2 i hi
 exact ⟨this.1,by omega,this.2.2⟩
theorem polOk_at {n:Nat} {f:Nat→T} (h:polOk n f=true) {i:Nat} (hi:i<n):(f i).m.ok=true∧0≤(f i).c∧(f i).c≤100:=by have:=(fl_of_ok h).2 i hi;exact ⟨this.1,by omega,this.2.2⟩
end Go.Proofs.YtdidlcjhodejjaaGreat
