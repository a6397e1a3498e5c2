/-
  slices.Backward of monomials.
-/
import Derived.Test.YtdidlcjhodejjaaGreatUal
import Derived.Test.YtdidlcjhodejjaaGreatUag
import Derived.RangeFuncNested
import Derived.RangeFuncLeaves
namespace Go.Proofs.YtdidlcjhodejjaaGreat
open Go.RowKit Go.Maps Go.Sort
set_option linter.unusedVariables false
end Go.Proofs.YtdidlcjhodejjaaGreat
namespace Go.Proofs.YtdidlcjhodejjaaGreat
open Go.RowKit Go.Maps Go.Sort Go.Shelf
set_option linter.unusedVariables false
def SortsM:Prop:=
 (∀ (Br:Nat) (W:World) (gb cap:Nat) (d:Array OM),Br<W.heap.size→Br≠gb→W.cell? ⟨Br,0,none⟩=some (.func (.func 103) #[] #[])→HoldsK cellsO 4 W gb 0 d→gb<W.heap.size→d.size<4611686018427387904 →
  Calls Tryz.prog 185 #[.slice (some ⟨gb,0,none⟩) d.size cap,.func (.func 180) #[] #[.pointer (some ⟨Br,0,none⟩)]] W fun e w'=>e=.returned (.tuple #[]) ∧
   ∃ d' n os,PermIn 0 d.size d d'∧SortedIn (ltOf fun x y:OM=>c3 (rkD x.1) (rkD y.1)) 0 d.size d'∧w'=sortWorldK cellsO 4 W gb 0 n d' os) ∧
 (∀ (p:Option Addr) (cap:Nat) (fv:Value) (W:World),Calls Tryz.prog 185 #[.slice p 0 cap,fv] W fun e w'=>e=.returned (.tuple #[])∧w'=W)
theorem flatM_at:∀ (ss:List M) (i c:Nat) (h:i<ss.length),c<4→(flatM ss)[i * 4+c]? = (cellsM ss[i])[c]?
 | [],i,c,h,_=>by simp at h
 | x :: r,0,c,_,hc=>by
  have e:flatM (x :: r)=cellsM x ++ flatM r:=rfl
  rw [e,List.getElem?_append_left (by simp [cellsM];omega)]
  simp
 | x :: r,i+1,c,h,hc=>by
  have e:flatM (x :: r)=cellsM x ++ flatM r:=rfl
  have hl:(cellsM x).length=4:=rfl
  rw [e,List.getElem?_append_right (by rw [hl];omega),hl,show (i+1) * 4+c - 4=i * 4+c by omega]
  exact flatM_at r i c (by simpa using h) hc
theorem holdsO {W:World} {gb:Nat} {cur:Array Value} {t:TypeId} (dO:List OM) (hgb:W.heap[gb]? = some (.cells cur t (0,0))) (r4:cur.toList.take (dO.length * 4)=flatM (dO.map (·.1))):HoldsK cellsO 4 W gb 0 dO.toArray:=by
 intro j hj
 rw [size_flatK] at hj
 have hj':j<dO.length * 4:=by simpa using hj
 refine ⟨?_,by simp [World.frozen?,hgb]⟩
 have h1:(cur.toList.take (dO.length * 4))[j]? = (flatM (dO.map (·.1)))[j]?:=by rw [r4]
 rw [List.getElem?_take_of_lt hj'] at h1
 have hi:j / 4<dO.length:=by omega
 have h2:=flatM_at (dO.map (·.1)) (j / 4) (j % 4) (by simpa using hi) (by omega)
 have e2:(dO.map (·.1))[j / 4]'(by simpa using hi)=(dO[j / 4]'hi).1:=List.getElem_map ..
 rw [show j / 4 * 4+j % 4=j by omega,e2] at h2
 simp only [World.cell?,hgb,Nat.zero_add]
 simp only [Option.isSome_none,Bool.false_eq_true,if_false]
 rw [← Array.getElem?_toList,h1,h2,id,get_flatK _ _ _ _ hj]
 have hx:dO.toArray[j / 4]! = dO[j / 4]'hi:=by
  rw [getElem!_pos dO.toArray (j / 4) (by simpa using hi)];simp
 rw [hx]
 generalize dO[j / 4]'hi=z
 have hc:j % 4<4:=by omega
 show (cellsO z)[j % 4]? = some (cellsO z)[j % 4]!
 rw [List.getElem?_eq_getElem (show j % 4<(cellsO z).length from hc),getElem!_pos (cellsO z) (j % 4) hc]
 rfl
structure RowV (W:World) (p:Option Addr) (d:List M):Prop where
 here:∀ i (h:i<d.length),∃ g,p=some ⟨g,0,none⟩∧g<W.heap.size∧W.cell? ⟨g,i * 4,none⟩=some (.int .i64 d[i].x)∧W.cell? ⟨g,i * 4+1,none⟩=some (.int .i64 d[i].y)∧W.cell? ⟨g,i * 4+2,none⟩=some (.int .i64 d[i].d)∧W.cell? ⟨g,i * 4+3,none⟩=some (.int .i64 d[i].e)
theorem RowV.keep {W W':World} {p:Option Addr} {d:List M} (h:RowV W p d) (hs:W.heap.size≤W'.heap.size) (hk:∀ g,p=some ⟨g,0,none⟩→W'.heap[g]? = W.heap[g]?):RowV W' p d:=⟨fun i hi=>by
 obtain ⟨g,hp,hg,c0,c1,c2,c3⟩:=h.here i hi
 have hb:=hk g hp
 exact ⟨g,hp,by omega,(World.cell?_of_block (w:=W) (a:=⟨g,_,none⟩) hb).trans c0,(World.cell?_of_block (w:=W) (a:=⟨g,_,none⟩) hb).trans c1,(World.cell?_of_block (w:=W) (a:=⟨g,_,none⟩) hb).trans c2,(World.cell?_of_block (w:=W) (a:=⟨g,_,none⟩) hb).trans c3⟩⟩
theorem grown_sortedK {w:World} {g n:Nat} {os:Array Obj} (d:Array OM):w.grownBy (sortWorldK cellsO 4 w g 0 n d os) (some g):=by
 refine ⟨rfl,rfl,rfl,by simp [sortWorldK,putRowK],fun k hk hne=>?_⟩
 unfold sortWorldK
 rw [heap_grow_old _ _ (by simpa [putRowK] using hk)]
 have:g≠k:=fun e=>hne (by rw [e])
 simp [putRowK,putRow,mapBlock,Sort.ahead,Array.getElem?_modify,this]
theorem rowV_sorted {W:World} {gb n:Nat} {os:Array Obj} (d d':Array OM) (hH:HoldsK cellsO 4 W gb 0 d) (hgl:gb<W.heap.size) (hs:d'.size=d.size):RowV (sortWorldK cellsO 4 W gb 0 n d' os) (some ⟨gb,0,none⟩) (d'.toList.map (·.1)):=⟨fun i hi=>by
 have hK:HoldsK cellsO 4 (sortWorldK cellsO 4 W gb 0 n d' os) gb 0 d':=by
  unfold sortWorldK
  exact holdsK_grow (enc:=cellsO) (k:=4) _ _ _ _ _ (by rw [size_putRowK];exact hgl) (holdsK_putRowK (enc:=cellsO) (k:=4) _ _ _ d d' (holdsK_ahead (enc:=cellsO) (k:=4) _ _ _ _ _ hH) hs)
 have hi':i<d'.size:=by simpa using hi
 have hx:d'[i]! = d'[i]:=getElem!_pos d' i hi'
 have hgs:gb<(sortWorldK cellsO 4 W gb 0 n d' os).heap.size:=by
  unfold sortWorldK
  rw [Go.Sort.size_grow,size_putRowK]
  exact Nat.lt_of_lt_of_le hgl (Nat.le_add_right _ _)
 have k:∀ c:Nat,c<4→_:=fun c hc=>(hK.cell (i:=i) (c:=c) hi' hc).1
 have k0:=k 0 (by omega)
 have k1:=k 1 (by omega)
 have k2:=k 2 (by omega)
 have k3:=k 3 (by omega)
 rw [hx,Nat.zero_add] at k0 k1 k2 k3
 have e:(d'.toList.map (·.1))[i]=(d'[i]).1:=by simp
 rw [e]
 exact ⟨gb,rfl,hgs,k0,k1,k2,k3⟩⟩
set_option maxHeartbeats 1000000 in
theorem sortedM (hsort:SortsM) (g:Nat) (lb:Array Value) (eg:∀ args w,(callFunc g args).run Tryz.prog w=.ok (.enter g args) w) (S:List M→Prop) (N:Nat) (hN:N≤1000000) (hok:∀ ss,S ss→∀ m∈ss,m.ok=true) (hle:∀ ss,S ss→ss.length≤N) (w:World) (hseq:SeqGives Fence.wide 5 Tryz.prog g lb enM S N w)
  (Br:Nat) (hB:Br<w.heap.size) (hr:w.cell? ⟨Br,0,none⟩=some (.func (.func 103) #[] #[])) :
  Calls Tryz.prog 178 #[.func (.func g) #[] lb,.func (.func 180) #[] #[.pointer (some ⟨Br,0,none⟩)]] w fun e w'=>∃ (p:Option Addr) (cap:Nat) (dO:List OM) (ss:List M),e=.returned (.slice p dO.length cap)∧S ss∧(dO.map (·.1)).Perm ss∧dO.Pairwise (fun a b=>rkD a.1≤rkD b.1)∧RowV w' p (dO.map (·.1))∧(∀ k,p=some ⟨k,0,none⟩→w.heap.size≤k∧k<w'.heap.size)∧Below w.heap.size w w':=by
 go_enter Tryz.func178,Tryz.ntmps178
 have hcol:=(callsIn_wide (n:=7)).1 (collectM (F:=Fence.wide) (n:=7) trivial trivial rfl (by omega) g lb trivial eg S N hN w hseq)
 go_wp2_with (go_at_call 184;refine hcol.mono ?_;rintro e W ⟨v,ss,rfl,hS,hrow,hnil,hb⟩)
 rcases hrow.2 with ⟨rfl,hz⟩ | ⟨gb,cap,cur,rfl,hbase,hgb,r1,r2,r3,r4⟩
 ·have hss:ss=[]:=List.eq_nil_of_length_eq_zero hz
  subst hss
  go_wp2_with (go_at_call 185;refine (hsort.2 none 0 _ W).mono ?_;rintro e w' ⟨rfl,hw⟩;obtain rfl:=hw.symm;clear hw)
  go_ret
  exact ⟨none,0,[],[],rfl,hS,List.Perm.refl _,List.Pairwise.nil,⟨fun i h=>by simp at h⟩,fun k e=>(by cases e),hb⟩
 ·obtain ⟨dO,hdO⟩:∃ dO:List OM,dO.map (·.1)=ss:=⟨ss.pmap (fun m h=>(⟨m,h⟩:OM)) (hok ss hS),by simp [List.map_pmap]⟩
  have hl:dO.length=ss.length:=by rw [← hdO];simp
  rw [← hl] at r4
  rw [← hdO] at r4
  have hH:HoldsK cellsO 4 W gb 0 dO.toArray:=holdsO dO hgb r4
  have hgl:gb<W.heap.size:=(Array.getElem?_eq_some_iff.1 hgb).1
  have hsz:dO.toArray.size<4611686018427387904:=by have:=hle ss hS;simp;omega
  have cS:=hsort.1 Br W gb cap dO.toArray (by have:=hb.size;omega) (by omega) ((hb.cell (p:=⟨Br,0,none⟩) hB).trans hr) hH hgl hsz
  simp only [List.size_toArray,hl] at cS
  go_wp2_with (go_at_call 185;refine cS.mono ?_;rintro e w' ⟨rfl,d',nn,os,hp,hs,hw⟩;obtain rfl:=hw.symm;clear hw)
  go_ret
  obtain ⟨hp1,hp2,hp3⟩:=hp
  have hsd:d'.size=dO.length:=by simpa using hp1
  have hperm:d'.toList.Perm dO:=by
   have e1:d'.extract 0 ss.length=d':=by rw [← hl,← hsd];exact Array.extract_size
   have e2:dO.toArray.extract 0 ss.length=dO.toArray:=by rw [← hl];simp
   rw [e1,e2] at hp3
   simpa using hp3
  refine ⟨some ⟨gb,0,none⟩,cap,d'.toList,ss,?_,hS,?_,?_,rowV_sorted dO.toArray d' hH hgl hp1,fun k e=>(by cases e;exact ⟨hbase,Nat.lt_of_lt_of_le hgl (grown_sortedK d').size⟩),hb.grown (grown_sortedK d') hb.size (fun j hj=>by cases hj;exact hbase)⟩
  ·rw [show d'.toList.length=ss.length by simp;omega]
   rfl
  ·rw [← hdO];exact hperm.map _
  ·rw [List.pairwise_iff_getElem]
   intro i j hi hj hij
   have hi':i<d'.size:=by simpa using hi
   have hj':j<d'.size:=by simpa using hj
   have:=hs i j (Nat.zero_le _) hij (by omega)
   rw [getElem!_pos d' i hi',getElem!_pos d' j hj',ltM] at this
   simp at this
   simpa using this
end Go.Proofs.YtdidlcjhodejjaaGreat
namespace Go.Proofs.YtdidlcjhodejjaaGreat
open Go.RowKit Go.Maps Go.Sort Go.Shelf
set_option linter.unusedVariables false
theorem len_of_sub {α:Type} [DecidableEq α]:∀ (l r:List α),l.Nodup→(∀ x∈l,x∈r)→l.length≤r.length
 | [],_,_,_=>Nat.zero_le _
 | x :: l,r,hn,hs=>by
  rw [List.nodup_cons] at hn
  have hx:x∈r:=hs x (List.mem_cons_self ..)
  have:=len_of_sub l (r.erase x) hn.2 (fun y hy=>(List.mem_erase_of_ne (fun e:y=x=>hn.1 (e ▸ hy))).2 (hs y (List.mem_cons_of_mem _ hy)))
  rw [List.length_erase_of_mem hx] at this
  have:0<r.length:=List.length_pos_of_mem hx
  simp only [List.length_cons]
  omega
theorem size_max {w:World} {b n:Nat} {D:DataW Unit} (h:w.ownsMap Tryz.prog 40 (plainElem Tryz.prog 138) b n D):Maps.size D≤n:=by
 obtain ⟨es,clock,h1,F,h3,rfl⟩:=h
 rw [size_eq,length_read]
 exact h3
theorem size_le {w:World} {b n:Nat} {D:DataW Unit} (h:w.ownsMap Tryz.prog 40 (plainElem Tryz.prog 138) b n D) (ss:List M) (hk:∀ kl,Maps.has D kl=true→∃ m∈ss,kl=keyM m):Maps.size D≤ss.length:=by
 have ht:=h.tidy lawM
 obtain ⟨es,clock,h1,F,h3,hD⟩:=h
 obtain ⟨L,hL,hp⟩:=ht
 have e:L=(es.toList.map (WideElems.rg Tryz.prog 40 (plainElem Tryz.prog 138))).foldr DataW.insert []:=by rw [hL] at hD;exact DataW.map.inj hD
 have hkeys:∀ p∈L,∃ m∈ss,p.1=keyM m:=fun p hpL=>by
  refine hk p.1 ?_
  rw [hL,has_eq,List.any_eq_true]
  refine ⟨p,hpL,?_⟩
  have hmem:p∈es.toList.map (WideElems.rg Tryz.prog 40 (plainElem Tryz.prog 138)):=by
   rw [e] at hpL
   exact (WideShapes.sorted_perm _).mem_iff.1 hpL
  obtain ⟨v,hv⟩:=fit_keys F p hmem
  exact WideAt.sameKey_self (lawM.key hv)
 rw [hL,size_eq]
 letI:DecidableEq Lit:=fun a b=>Classical.propDecidable (a=b)
 have:=len_of_sub (L.map (·.1)) (ss.map keyM) (by rw [List.Nodup,List.pairwise_map];exact hp) (fun x hx=>by
  obtain ⟨p,hpL,rfl⟩:=List.mem_map.1 hx
  obtain ⟨m,hm,he⟩:=hkeys p hpL
  rw [he]
  exact List.mem_map_of_mem hm)
 simpa using this
theorem strict_of {l:List OM} (h:l.Pairwise (fun a b=>rkD a.1≤rkD b.1)) (hn:(l.map (·.1)).Nodup):l.Pairwise (fun a b=>rkD a.1<rkD b.1):=by
 rw [List.Nodup,List.pairwise_map] at hn
 refine (h.and hn).imp ?_
 rintro a b ⟨h1,h2⟩
 rcases Int.lt_or_eq_of_le h1 with h | h
 ·exact h
 ·exact absurd (rkD_inj a.2 b.2 h) h2
set_option maxHeartbeats 1000000 in
theorem keysOrd (hsort:SortsM) (w:World) (b n:Nat) (D:DataW Unit) (hown:w.ownsMap Tryz.prog 40 (plainElem Tryz.prog 138) b n D) (hks:∀ kl,Maps.has D kl=true→∃ m:M,m.ok=true∧kl=keyM m) (hn:n≤1000000) :
  Calls Tryz.prog 169 #[.map (some b),.func (.func 103) #[] #[]] w fun e w'=>∃ (p:Option Addr) (cap:Nat) (dO:List OM),e=.returned (.slice p dO.length cap)∧dO.Pairwise (fun a b=>rkD a.1<rkD b.1)∧(∀ m:M,m.ok=true→(m∈dO.map (·.1) ↔ Maps.has D (keyM m)=true))∧dO.length=Maps.size D∧RowV w' p (dO.map (·.1))∧(∀ k,p=some ⟨k,0,none⟩→w.heap.size≤k∧k<w'.heap.size)∧Below w.heap.size w w':=by
 have hN:Maps.size D≤1000000:=Nat.le_trans (size_max hown) hn
 obtain ⟨W1,hW1⟩:∃ W1,w.alloc (.cells #[.func (.func 103) #[] #[]] 84)=W1:=⟨_,rfl⟩
 obtain ⟨W2,hW2⟩:∃ W2,W1.alloc (.cells #[.map (some b)] 169)=W2:=⟨_,rfl⟩
 have hs1:W1.heap.size=w.heap.size+1:=by rw [← hW1];simp
 have hs2:W2.heap.size=w.heap.size+2:=by rw [← hW2];simp [hs1]
 have hb1:Below w.heap.size w W1:=by rw [← hW1];exact (Below.refl _ w).alloc (Nat.le_refl _) _
 have hb2:Below w.heap.size w W2:=by rw [← hW2];exact hb1.alloc hb1.size _
 have hr1:W1.cell? ⟨w.heap.size,0,none⟩=some (.func (.func 103) #[] #[]):=by rw [← hW1];exact (Boxed.new w _ _).cell
 have hr2:W2.cell? ⟨w.heap.size,0,none⟩=some (.func (.func 103) #[] #[]):=by rw [← hW2];exact (World.cell?_of_block (w:=W1) (a:=⟨w.heap.size,0,none⟩) (Below.heap_alloc W1 _ w.heap.size (by omega))).trans hr1
 have hm2:W2.cell? ⟨w.heap.size+1,0,none⟩=some (.map (some b)):=by rw [← hs1,← hW2];exact (Boxed.new W1 _ _).cell
 have hown2:W2.ownsMap Tryz.prog 40 (plainElem Tryz.prog 138) b n D:=by rw [← hW2,← hW1];exact (hown.alloc _).alloc _
 have hseq:SeqGives Fence.wide 5 Tryz.prog 186 #[.pointer (some ⟨w.heap.size+1,0,none⟩)] enM (KeysOf D) (Maps.size D) W2:=keysGives trivial rfl (by omega) _ b n D W2 (by omega) hks hm2 hown2
 have hS:=sortedM hsort 186 _ (enters_of Tryz.func186 (by kernel_rfl) rfl) (KeysOf D) _ hN (fun ss h=>h.2.1) (fun ss h=>h.2.2.2) W2 hseq w.heap.size (by omega) hr2
 have hK:=(callsIn_wide (n:=5)).1 (keysM (F:=Fence.wide) (n:=5) trivial rfl (some b) W1)
 rw [hs1] at hK
 clear hseq hm2 hr2 hr1
 go_enter Tryz.func169,Tryz.ntmps169
 go_wp2_with (first
  | (go_at_call 179;refine hK.mono ?_;rintro e W ⟨rfl,hw⟩;obtain rfl:=hw.trans hW2;clear hw)
  | (go_at_call 178;refine hS.mono ?_;rintro e W3 ⟨p,cap,dO,ss,rfl,hS3,hp3,hs3,hv3,hp4,hb3⟩))
 go_ret
 have hnd:(dO.map (·.1)).Nodup:=hp3.symm.nodup hS3.1
 have hmem:∀ m:M,m.ok=true→(m∈dO.map (·.1) ↔ Maps.has D (keyM m)=true):=fun m hm=>by rw [hp3.mem_iff];exact hS3.2.2.1 m hm
 refine ⟨p,cap,dO,rfl,strict_of hs3 hnd,hmem,?_,hv3,fun k e=>(by have:=hp4 k e;omega),hb2.trans (hb3.mono (by omega))⟩
 have h1:dO.length=ss.length:=by have:=hp3.length_eq;simpa using this
 have h2:=size_le hown ss (fun kl hkl=>by
  obtain ⟨m,hm,rfl⟩:=hks kl hkl
  exact ⟨m,(hS3.2.2.1 m hm).2 hkl,rfl⟩)
 have h3:=hS3.2.2.2
 omega
end Go.Proofs.YtdidlcjhodejjaaGreat
namespace Go.Proofs.YtdidlcjhodejjaaGreat
open Go.RowKit Go.Maps Go.Sort Go.Shelf
set_option linter.unusedVariables false
attribute [local go_sem] Oper.semAt_some
abbrev BA:Type:=Nat × OM
def encB (x:BA):Array Value:=#[.int .i64 (x.1:Int),.agg #[.int .i64 x.2.1.x,.int .i64 x.2.1.y,.int .i64 x.2.1.d,.int .i64 x.2.1.e]]
def itemB (d:List OM) (i:Nat):BA:=(i,d.getD i default)
def doneB (d:List OM) (k:Nat):List BA:=(List.range (d.length - k)).map fun j=>itemB d (d.length - 1 - j)
theorem doneB_start (d:List OM):doneB d d.length=[]:=by simp [doneB]
theorem doneB_step (d:List OM) (k:Nat) (h:k<d.length):doneB d (k+1) ++ [itemB d k]=doneB d k:=by
 unfold doneB
 rw [show d.length - k=(d.length - (k+1))+1 by omega,List.range_succ,List.map_append]
 simp only [List.map_cons,List.map_nil]
 rw [show d.length - 1 - (d.length - (k+1))=k by omega]
theorem doneB_length (d:List OM) (k:Nat):(doneB d k).length=d.length - k:=by simp [doneB]
def keepB (Bm:Nat) (p:Option Addr) (W W':World):Prop:=W.heap.size≤W'.heap.size∧∀ k,(k=Bm∨p=some ⟨k,0,none⟩)→W'.heap[k]? = W.heap[k]?
theorem keepB_t {Bm:Nat} {p:Option Addr} {A B C:World} (h:keepB Bm p A B) (k:keepB Bm p B C):keepB Bm p A C:=⟨Nat.le_trans h.1 k.1,fun i hi=>(k.2 i hi).trans (h.2 i hi)⟩
theorem keepB_b {Bm:Nat} {p:Option Addr} {w:World} (hB:Bm<w.heap.size) (hp:∀ k,p=some ⟨k,0,none⟩→k<w.heap.size) (W:World) (l:Nat) (o o':Obj) (hl:w.heap.size≤l) (h:W.heap[l]? = some o) (_:o.isCells=false) (_:o.isWalk=false):keepB Bm p W (W.putObj l o'):=
 ⟨by rw [World.putObj_size];exact Nat.le_refl _,fun k hk=>World.putObj_heap_other (by rcases hk with rfl | hk;omega;have:=hp k hk;omega)⟩
set_option maxHeartbeats 1000000 in
theorem backV {F:Fence} {n:Nat} (h7:F.fn 168) (hro:F.round=none) (p:Option Addr) (k cap:Nat) (w:World) :
  CallsIn F n Tryz.prog 168 #[.slice p k cap] w fun e w'=>e=.returned (.func (.func 177) #[] #[.pointer (some ⟨w.heap.size,0,none⟩)])∧w'=w.alloc (.cells #[.slice p k cap] 37):=by
 refine callsIn_of_wp Tryz.func168 rfl h7 ?_ hro
 simp only [Tryz.ntmps168,List.size_toArray,List.length_cons,List.length_nil,Nat.reduceAdd,Nat.reduceSub,Array.replicate_succ,Array.replicate_zero,List.push_toArray,List.append_toArray,List.nil_append,List.cons_append]
 gi_wp2
 go_ret
 exact ⟨rfl,rfl⟩
set_option maxRecDepth 100000 in
set_option maxHeartbeats 1000000 in
theorem back1S {F:Fence} {n:Nat} (h10:F.fn 177) (hro:F.round=none) (hn:1≤n) (l Bm cap:Nat) (p:Option Addr) (d:List OM) (hd:d.length≤1000000) (J Jx:List BA→World→Prop)
  (hY:∀ pre x W,J pre W→pre.length<d.length→YieldAt F (n - 1) Tryz.prog l (encB x) W fun e W'=>(e=.returned (.bool true)∧J (pre ++ [x]) W'∧keepB Bm p W W')∨(e=.returned (.bool false)∧Jx (pre ++ [x]) W'))
  (W:World) (hbox:W.cell? ⟨Bm,0,none⟩=some (.slice p d.length cap)) (hrow:RowV W p (d.map (·.1))) (h0:J [] W) :
  CallsIn F n Tryz.prog 177 #[.func (.yield l) #[] #[],.pointer (some ⟨Bm,0,none⟩)] W fun e W'=>(∃ v,e=.returned v)∧((∃ xs,xs=doneB d 0∧J xs W')∨(∃ pre,True∧Jx pre W')):=by
 refine callsIn_of_wp Tryz.func177 rfl h10 ?_ hro
 simp only [Tryz.ntmps177,List.size_toArray,List.length_cons,List.length_nil,Nat.reduceAdd,Nat.reduceSub,Array.replicate_succ,Array.replicate_zero,List.push_toArray,List.append_toArray,List.nil_append,List.cons_append]
 gi_wp2
 gi_loopw [3] (fun v wr=>∃ k:Nat,k≤d.length∧v=.int .i64 ((k:Int) - 1)∧J (doneB d k) wr∧wr.cell? ⟨Bm,0,none⟩=some (.slice p d.length cap)∧RowV wr p (d.map (·.1))) (fun v _=>(RowKit.intOf v+1).toNat)
 case atStart=>
  exact ⟨d.length,Nat.le_refl _,rfl,by rw [doneB_start];exact h0,hbox,hrow⟩
 case round=>
  obtain ⟨k,hk,rfl,hJ,hb,hR⟩:=hrel
  cases k with
  | zero=>
   gi_wp2
   go_end0
   exact ⟨⟨_,rfl⟩,.inl ⟨_,rfl,hJ⟩⟩
  | succ k=>
   have e1:((k+1:Nat):Int) - 1=(k:Int):=by omega
   rw [e1]
   have hi:k<d.length:=by omega
   obtain ⟨g,rfl,hgl,c0,c1,c2,c3⟩:=hR.here k (by simpa using hi)
   have HR:=Hid.mk' hR
   have hYk:=hY (doneB d (k+1)) (itemB d k) _ hJ (by rw [doneB_length];omega)
   rw [doneB_step d k hi] at hYk
   have eM:(d.map (·.1))[k]'(by simpa using hi)=(itemB d k).2.1:=by simp [itemB,hi]
   rw [eM] at c0 c1 c2 c3
   have hk1:(itemB d k).1=k:=rfl
   clear hR eM hY
   obtain ⟨fn,tmps,assign,body,hy,hRd⟩:=hYk
   dsimp only [encB] at hy
   rw [hk1] at hy
   clear hk1
   generalize (itemB d k).2.1=m at c0 c1 c2 c3 hy
   gi_wp2
   refine hRd.mono ?_
   rintro e W3 (⟨rfl,hJ3,hk3⟩ | ⟨rfl,hJx3⟩)
   ·have hb3:W3.cell? ⟨Bm,0,none⟩=some (.slice (some ⟨g,0,none⟩) d.length cap):=(World.cell?_of_block (w:=wr) (a:=⟨Bm,0,none⟩) (hk3.2 Bm (.inl rfl))).trans hb
    gi_wp2
    go_roundw
    case rel=>exact ⟨k,by omega,rfl,hJ3,hb3,HR.out.keep hk3.1 (fun g' e=>hk3.2 g' (.inr e))⟩
    case measure=>simp only [RowKit.intOf];omega
   ·gi_wp2
    refine bodyPost_ret (results_none rfl _ _ _) rfl ?_
    exact ⟨⟨_,rfl⟩,.inr ⟨_,trivial,hJx3⟩⟩
theorem backStops {n:Nat} (hn:1≤n) (Bm cap:Nat) (p:Option Addr) (d:List OM) (hd:d.length≤1000000) (w:World) (hBm:Bm<w.heap.size) (hbox:w.cell? ⟨Bm,0,none⟩=some (.slice p d.length cap)) (hrow:RowV w p (d.map (·.1))) (hp:∀ k,p=some ⟨k,0,none⟩→k<w.heap.size) :
  SeqStopsK Fence.wide n Tryz.prog 177 #[.pointer (some ⟨Bm,0,none⟩)] encB (keepB Bm p) (fun xs=>xs=doneB d 0) (fun _=>True) d.length w:=fun l J Jx W hW _ _ hY h0=>
 back1S (F:=Fence.wide) trivial rfl hn l Bm cap p d hd J Jx hY W ((hW.cell (p:=⟨Bm,0,none⟩) hBm).trans hbox) (hrow.keep hW.size (fun g e=>hW.block g (hp g e))) h0
end Go.Proofs.YtdidlcjhodejjaaGreat
