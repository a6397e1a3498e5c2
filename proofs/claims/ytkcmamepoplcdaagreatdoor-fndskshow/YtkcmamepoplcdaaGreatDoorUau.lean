/-
  The model cuts texts at each '+' and reads operators (l3Cut, PolRead).
-/
import Derived.Test.YtkcmamepoplcdaaGreatDoorUas
import Derived.Test.YtkcmamepoplcdaaGreatDoorUat
import Derived.Test.YtkcmamepoplcdaaGreatDoorUar
import Derived.Shelf.Strings.Search3
import Derived.Shelf.Strings.Cut
import Derived.Shelf.Strings.Split
import Derived.Shelf.LaysM
import Derived.StringKeys
set_option maxHeartbeats 4000000
set_option maxRecDepth 100000
namespace Go.Proofs.YtkcmamepoplcdaaGreatDoor
open Go.RowKit
set_option linter.unusedVariables false
set_option linter.unusedSimpArgs false
theorem xD:∀s:List UInt8,(bC s).length≤s.length+1
 |[]=>by simp[bC]
 |c::r=>by
  have:=xD r;unfold bC;split
  ·simp;omega
  ·cases e:bC r with
   |nil=>exact absurd e (mI r)
   |cons h t=>rw[e]at this;simp[tR]at this⊢;omega
theorem gK:∀(s:List UInt8) (w:List UInt8),w∈bC s→w.length≤s.length
 |[],w,h=>by simp[bC]at h;subst h;simp
 |c::r,w,h=>by
  unfold bC at h;split at h
  ·rcases List.mem_cons.1 h with e|e
   ·subst e;simp
   ·have:=gK r w e;simp;omega
  ·cases q:bC r with
   |nil=>exact absurd q (mI r)
   |cons a t=>
    rw[q]at h;rcases List.mem_cons.1 h with e|e
    ·subst e;have:=gK r a (by rw[q];simp)
     simp;omega
    ·have:=gK r w (by rw[q];simp[e]);simp;omega
open Go.Shelf Go.RowKit
theorem xP:∀{l:List UInt8},Lib.indexByte l 43<0→bC l=[l]
 |[],_=>rfl
 |b::l,h=>by
  unfold Lib.indexByte at h;split at h
  ·omega
  ·rename_i hb;have hb':b≠43:=by simpa using hb
   split at h
   ·rename_i h1;have h1':Lib.indexByte l 43= -1:=by simpa using h1
    rw[tS,if_neg hb',xP (l:=l) (by omega)];rfl
   ·have:=Lib.indexByte_ge l 43;omega
theorem xQ:∀{l:List UInt8} {i:Nat},Lib.indexByte l 43=(i:Int)→i+1≤l.length∧bC l=l.take i::bC (l.drop (i+1))
 |[],i,h=>by unfold Lib.indexByte at h;omega
 |b::l,i,h=>by
  unfold Lib.indexByte at h;split at h
  ·rename_i hb;have hb':b=43:=by simpa using hb
   have hi:i=0:=by omega
   subst hi hb';refine⟨by simp,?_⟩;rw[tS,if_pos rfl];rfl
  ·rename_i hb;have hb':b≠43:=by simpa using hb
   split at h
   ·omega
   ·obtain⟨j,rfl⟩:∃j,i=j+1:=⟨i-1,by
     have:=Lib.indexByte_ge l 43;rename_i h1;have h1':Lib.indexByte l 43≠ -1:=by simpa using h1
     omega⟩
    obtain⟨h2,h3⟩:=xQ (l:=l) (i:=j) (by omega);refine⟨by simp;omega,?_⟩;rw[tS,if_neg hb',h3];rfl
shelf_lay Lays.n143 Nm 143 at Tryz as lay143
theorem KS (l:List UInt8) (w:World):Calls Tryz.prog 97 #[.string ⟨l.toArray⟩,.string ⟨#[43]⟩] w fun e w'=>e= .returned (.int .i64 (Lib.indexByte l 43))∧w'=w:=Any.strings_Index_one lay143 ⟨l.toArray⟩ 43 w
def KL (x:List UInt8):Array Value:=#[.string ⟨x.toArray⟩]
def AR (W:World) (lo:Nat) (l:List UInt8):Prop:=Boxed W lo 9 (.string ⟨l.toArray⟩)∧Boxed W (lo+1) 9 (.string ⟨#[43]⟩)∧Boxed W (lo+2) 3 (.int .i64 0)
theorem AR.keep {W W':World} {lo:Nat} {l:List UInt8} (h:AR W lo l) (hk:kY lo (lo+3) W W'):AR W' lo l:=⟨(hk.2 _ (by omega) (by omega)).trans h.1,(hk.2 _ (by omega) (by omega)).trans h.2.1,(hk.2 _ (by omega) (by omega)).trans h.2.2⟩
theorem AR.set {W:World} {lo:Nat} {l:List UInt8} (h:AR W lo l) (l':List UInt8):AR (W.setCell ⟨lo,0,none⟩ (.string ⟨l'.toArray⟩)) lo l':=⟨h.1.set _,h.2.1.other (by omega) _,h.2.2.other (by omega) _⟩
def PA (lo:Nat) (W:World):Nat:=match W.cell? ⟨lo,0,none⟩with|some (.string b)=>b.size|_=>0
theorem EL {W:World} {lo:Nat} {l:List UInt8} (h:AR W lo l):PA lo W=l.length:=by unfold PA;rw[h.1.cell];exact gJ l
theorem LR (s:List UInt8) (hs:s.length≤1048576) (lo:Nat) (w:World) (hb:AR w lo s):JT Tryz.prog 179 #[.pointer (some ⟨lo+1,0,none⟩),.pointer (some ⟨lo,0,none⟩),.pointer (some ⟨lo+2,0,none⟩)] KL lo (lo+3) (bC s) w:=by
 intro l J Jx W hW hJ hJb hY h0;have hlt:lo+2<w.heap.size:=hb.2.2.lt
 have hB0:AR W lo s:=hb.keep (kY.below hW (by omega));have HJ:=aA hJ
 have HJB:=aA hJb;have HY:Hid (∀pre x W1,J pre W1→pre++[x]<+:bC s→YieldAt Fence.wide 8 Tryz.prog l (#[.string ⟨x.toArray⟩]) W1 fun e W'=>(e= .returned (.bool true)∧J (pre++[x]) W'∧kY lo (lo+3) W1 W')∨(e= .returned (.bool false)∧Jx (pre++[x]) W')):=aA (fun pre x W1 a b=>PB 8 (hY pre x W1 a b))
 clear hJ hJb hY hW hb;refine(callsIn_wide (n:=9)).1 ?_;refine callsIn_of_wp Tryz.func179 rfl trivial ?_ rfl;simp only[Tryz.ntmps179,List.size_toArray,List.length_cons,List.length_nil,Nat.reduceAdd,Nat.reduceSub,Array.replicate_succ,Array.replicate_zero,List.push_toArray,List.append_toArray,List.nil_append,List.cons_append];have c1:=hB0.2.1.cell
 gi_wp2
 clear c1
 gi_loopw [7] (fun v wr=>∃(lr:List UInt8) (pre:List (List UInt8)),lr.length≤1048576∧Hid (pre++bC lr=bC s)∧Hid (J pre wr)∧Hid (AR wr lo lr)) (fun _ wr=>PA lo wr)
 case atStart=>exact⟨s,[],hs,aA rfl,aA h0,aA hB0⟩
 case round=>
  obtain⟨lr,pre,hlr,HC,HJP,HB⟩:=hrel;have HSZ:=aA (EL HB.out)
  obtain⟨b1,b2,b3⟩:=HB.out;have c1:=b1.cell
  have c2:=b2.cell;have c3:=b3.cell
  have z1:=b1.frozen;clear b1 b2 b3;have hix:=KS lr wr
  by_cases hn:Lib.indexByte lr 43<0
  ·have HCE:Hid (pre++[lr]=bC s):=by rw[←HC.out,xP hn];exact aA rfl
   obtain⟨fn,tmps,assign,body,hyl,hRd⟩:=HY.out pre lr wr HJP.out (by rw[HCE.out];exact List.prefix_rfl);obtain⟨iv,hiv⟩:∃iv,Lib.indexByte lr 43=iv:=⟨_,rfl⟩
   rw[hiv]at hn hix;have HIX:=aA hix
   clear hiv hix
   gi_wp2_with (first
    |(refine⟨trivial,?_⟩;gi_at_call 97;refine(callsIn_wide.2 HIX.out).mono ?_;rintro e w4 ⟨rfl,hw4⟩;obtain rfl:=hw4.symm;clear hw4)
    |gi_in)
   refine hRd.mono ?_;rintro e W3 (⟨rfl,hJ3,hk3⟩|⟨rfl,hJx3⟩)
   ·gi_wp2
    go_end0
    exact⟨⟨_,rfl⟩,.inl (by rw[←HCE.out];exact hJ3)⟩
   ·gi_wp2
    go_end0
    exact⟨⟨_,rfl⟩,.inr ⟨_,by rw[HCE.out];exact List.prefix_rfl,hJx3⟩⟩
  ·obtain⟨i,hi⟩:∃i:Nat,Lib.indexByte lr 43=(i:Int):=⟨(Lib.indexByte lr 43).toNat,by omega⟩
   obtain⟨hil,hcut⟩:=xQ hi;have HCE:Hid ((pre++[lr.take i])++bC (lr.drop (i+1))=bC s):=by rw[←HC.out,hcut];exact aA (by simp)
   obtain⟨fr,hfr⟩:∃fr,lr.take i=fr:=⟨_,rfl⟩
   obtain⟨re,hre⟩:∃re,lr.drop (i+1)=re:=⟨_,rfl⟩
   have hrel:re.length<lr.length:=by rw[←hre];simp;omega
   have hto:=fun u=>wR (l:=lr) (k:=i) (by omega) u;have hfm:=fun u=>AG (l:=lr) (k:=i) hil u
   rw[hfr]at HCE hto;rw[hre]at HCE hfm;rw[hi]at hix;have HIX:=aA hix
   have hiI:(i:Int)≤1048576:=by omega
   obtain⟨fn,tmps,assign,body,hyl,hRd⟩:=HY.out pre fr wr HJP.out (by rw[←HCE.out];exact⟨_,rfl⟩);clear hix hi hcut hfr hre hn
   gi_wp2_with (first
    |(refine⟨trivial,?_⟩;gi_at_call 97;refine(callsIn_wide.2 HIX.out).mono ?_;rintro e w4 ⟨rfl,hw4⟩;obtain rfl:=hw4.symm;clear hw4)
    |gi_in)
   refine hRd.mono ?_;rintro e W3 (⟨rfl,hJ3,hk3⟩|⟨rfl,hJx3⟩)
   ·have hB3:=HB.out.keep hk3;obtain⟨b1,b2,b3⟩:=hB3;clear c1 c2 c3 z1;have c1:=b1.cell
    have c2:=b2.cell;have c3:=b3.cell
    have z1:=b1.frozen;have HB4:=aA (AR.set ⟨b1,b2,b3⟩ re)
    have HJ4:=aA (HJB.out _ _ lo (.string ⟨re.toArray⟩) (Nat.le_refl _) (by omega) hJ3);clear b1 b2 b3 hk3 hJ3
    gi_wp2
    go_roundw;case rel=>exact⟨re,pre++[fr],by omega,HCE,HJ4,HB4⟩
    case measure=>
     have h1:=EL HB4.out;have h2:=HSZ.out
     omega
   ·gi_wp2
    refine dT (results_none rfl _ _ _) rfl ?_;exact⟨⟨_,rfl⟩,.inr ⟨_,by rw[←HCE.out];exact⟨_,rfl⟩,hJx3⟩⟩
open Go.Shelf Go.RowKit Go.Maps
shelf_lay LaysM.n145 Nm 145 at Tryz as layM145
shelf_lay LaysM.n147 Nm 147 at Tryz as layM147
shelf_lay LaysM.n143 Nm 143 at Tryz as layM143
def AU (w:World):Prop:=∃m,w.cell? ⟨1,0,none⟩=some (.int .i64 m)
theorem AU.below {w w':World} (h:AU w) (hb:Below w.heap.size w w'):AU w':=h.imp fun m e=>(hb.cell (p:=⟨1,0,none⟩) (AY _ _ e)).trans e
theorem MO (l:List UInt8) (hl:l.length≤1048576) (w:World) (h:AU w):Calls Tryz.prog 36 #[.string ⟨l.toArray⟩,.string ⟨#[32]⟩] w fun e w'=>e= .returned (.tuple #[.string ⟨(Lib.cut l [32]).1.toArray⟩,.string ⟨(Lib.cut l [32]).2.1.toArray⟩,.bool (Lib.cut l [32]).2.2])∧Below w.heap.size w w':=by obtain⟨m,hm⟩:=h;refine(Any.strings_Cut layM145.ton145 ⟨l.toArray⟩ ⟨#[32]⟩ m w (by show l.toArray.size<_;simp;omega) hm).mono ?_;rintro e w' ⟨rfl,n,rfl⟩;exact⟨rfl,below_drewN (aD _ _) n⟩
theorem MU (l:List UInt8) (w:World) (h:AU w):Calls Tryz.prog 97 #[.string ⟨#[65,66,67,68,69,70]⟩,.string ⟨l.toArray⟩] w fun e w'=>e= .returned (.int .i64 (tC l))∧w'=w:=by obtain⟨m,hm⟩:=h;exact Any.strings_Index lay143 ⟨#[65,66,67,68,69,70]⟩ ⟨l.toArray⟩ m w (by show(6:Nat)<_;omega) hm
theorem qZ:∀(k:Nat) (s:List UInt8),(Lib.splitK [32] 0 k s).length≤k+1
 |0,s=>by simp[Lib.splitK]
 |k+1,s=>by
  unfold Lib.splitK;split
  ·simp
  ·exact Nat.succ_le_succ (qZ k _)
theorem AB (s:List UInt8) (k:Nat):1≤(Lib.splitK [32] 0 k s).length:=by
 cases k with
 |zero=>simp[Lib.splitK]
 |succ k=>unfold Lib.splitK;split<;>simp
theorem JC (l:List UInt8) (hl:l.length≤1048576) (n:Nat) (hn:1≤n) (hn3:n≤3) (w:World) (h:AU w):Calls Tryz.prog 98 #[.string ⟨l.toArray⟩,.string ⟨#[32]⟩,.int .i64 n] w fun e w'=>∃cp,e= .returned (.slice (some ⟨w.heap.size,0,none⟩) (Lib.splitN l [32] n).length cp)∧Below w.heap.size w w'∧w.heap.size<w'.heap.size∧∀(j:Nat) (x:List UInt8),(Lib.splitN l [32] n)[j]? =some x→w'.cell? ⟨w.heap.size,j,none⟩=some (.string ⟨x.toArray⟩):=by
 obtain⟨m,hm⟩:=h;have hsz:(⟨l.toArray⟩:ByteArray).size=l.length:=by show l.toArray.size=_;simp
 refine(Any.strings_SplitN layM147.ton147 layM147.i9 ⟨l.toArray⟩ ⟨#[32]⟩ n m w (by rw[hsz];omega) hm (by decide) hn (by omega)).mono ?_;rintro e w' ⟨rfl,rfl⟩;have hd:=Lib.splitB_data ⟨#[32]⟩ 0 (min n ((⟨l.toArray⟩:ByteArray).size+1)-1) ⟨l.toArray⟩
 have hd2:(Lib.splitB ⟨#[32]⟩ 0 (min n ((⟨l.toArray⟩:ByteArray).size+1)-1) ⟨l.toArray⟩).map (·.data.toList)=Lib.splitN l [32] n:=by rw[hd,hsz];rfl
 have hlen:(Lib.splitB ⟨#[32]⟩ 0 (min n ((⟨l.toArray⟩:ByteArray).size+1)-1) ⟨l.toArray⟩).length=(Lib.splitN l [32] n).length:=by rw[←hd2,List.length_map]
 refine⟨_,by rw[hlen],(aD _ _).alloc (Nat.le_refl _) _,by simp,fun j x hx=>?_⟩;rw[←hd2,List.getElem?_map]at hx;cases hq:(Lib.splitB ⟨#[32]⟩ 0 (min n ((⟨l.toArray⟩:ByteArray).size+1)-1) ⟨l.toArray⟩)[j]? with
 |none=>rw[hq]at hx;cases hx
 |some b=>
  rw[hq]at hx;cases hx;rw[World.cell?_alloc_at _ _ _ _ rfl];unfold Lib.cellsOf;have hj:=(List.getElem?_eq_some_iff.1 hq).1
  rw[List.getElem?_toArray,List.getElem?_append_left (by rw[List.length_map];exact hj),List.getElem?_map,hq];rfl
def FD (k:Int):Value:=.func (.func (if k=1 then 66 else 67)) #[.int .i64 k] #[]
open Classical in
noncomputable def lK (v:Value):Option (DataW Unit×List MemPlace):=if v= .nilFunc then some (.lit (.int .i64 0),[])else if h:∃k:Int,(1≤k∧k≤8)∧v=FD k then some (.lit (.int .i64 h.choose),[])else none
theorem GJ {k k':Int} (h:FD k=FD k'):k=k':=by unfold FD at h;injection h with _ h2 _;simpa using h2
theorem jI {k:Int} (hk:1≤k∧k≤8):lK (FD k)=some (.lit (.int .i64 k),[]):=by
 have h:∃k':Int,(1≤k'∧k'≤8)∧FD k=FD k':=⟨k,hk,rfl⟩
 unfold lK;rw[if_neg (by unfold FD;intro e;cases e),dif_pos h,←GJ h.choose_spec.2]
theorem rO:lK .nilFunc=some (.lit (.int .i64 0),[]):=by unfold lK;rw[if_pos rfl]
theorem xJ {v:Value} {k:Int} {ps:List MemPlace} (h:lK v=some (.lit (.int .i64 k),ps)):(k=0∧v= .nilFunc)∨((1≤k∧k≤8)∧v=FD k):=by
 unfold lK at h;split at h
 ·rename_i e;simp only[Option.some.injEq,Prod.mk.injEq,DataW.lit.injEq,Lit.int.injEq,true_and]at h;exact .inl ⟨h.1.symm,e⟩
 ·split at h
  ·rename_i q;simp only[Option.some.injEq,Prod.mk.injEq,DataW.lit.injEq,Lit.int.injEq,true_and]at h;have z:=q.choose_spec
   rw[h.1]at z;exact .inr z
  ·cases h
def kE (w:List UInt8):Lit:=.string w
def DU (D:DataW Unit) (k:Int):DataW Unit:=D.put (kE (eY k)) (.lit (.int .i64 k))
def rdD:DataW Unit:=DU (DU (DU (DU (DU (DU (DU (DU (.map []) 1) 2) 3) 4) 5) 6) 7) 8
theorem iP {D:DataW Unit} (h:IsMap D) (k:Int):IsMap (DU D k):=by obtain⟨es,rfl⟩:=h;exact⟨_,rfl⟩
theorem dW {D:DataW Unit} (h:IsMap D) (k:Int) (w:List UInt8) (z:DataW Unit):(DU D k).atKey (kE w) z=(if w=eY k then .lit (.int .i64 k)else D.atKey (kE w) z)∧Maps.has (DU D k) (kE w)=(if w=eY k then true else Maps.has D (kE w)):=by
 by_cases e:w=eY k
 ·subst e;rw[if_pos rfl,if_pos rfl];exact⟨atKey_put_same h (by trivial) _ _,has_put_same h (by trivial) _⟩
 ·rw[if_neg e,if_neg e];have hne:kE w≠kE (eY k):=fun q=>e (by cases q;rfl)
  exact⟨atKey_put_other hne _ _,has_put_other hne _⟩
theorem LM (w:List UInt8):rdD.atKey (kE w) (.lit (.int .i64 0))= .lit (.int .i64 (kn w))∧Maps.has rdD (kE w)=decide (kn w≠0):=by
 have m0:IsMap (.map []:DataW Unit):=⟨_,rfl⟩
 have m1:=iP m0 1;have m2:=iP m1 2
 have m3:=iP m2 3;have m4:=iP m3 4
 have m5:=iP m4 5;have m6:=iP m5 6
 have m7:=iP m6 7;unfold rdD;rw[(dW m7 8 w _).1,(dW m6 7 w _).1,(dW m5 6 w _).1,(dW m4 5 w _).1,(dW m3 4 w _).1,(dW m2 3 w _).1,(dW m1 2 w _).1,(dW m0 1 w _).1];rw[(dW m7 8 w .nil).2,(dW m6 7 w .nil).2,(dW m5 6 w .nil).2,(dW m4 5 w .nil).2,(dW m3 4 w .nil).2,(dW m2 3 w .nil).2,(dW m1 2 w .nil).2,(dW m0 1 w .nil).2];by_cases hk:kn w=0
 ·have hn:∀k:Int,1≤k∧k≤8→w≠eY k:=fun k hk1 e=>by rw[e,wB hk1]at hk;omega
  rw[hk];simp only[if_neg (hn 1 (by omega)),if_neg (hn 2 (by omega)),if_neg (hn 3 (by omega)),if_neg (hn 4 (by omega)),if_neg (hn 5 (by omega)),if_neg (hn 6 (by omega)),if_neg (hn 7 (by omega)),if_neg (hn 8 (by omega))];exact⟨rfl,rfl⟩
 ·have hw:=LC hk;have hb:=JN w
  generalize kn w=k at hk hw hb;subst hw;rcases(show k=1∨k=2∨k=3∨k=4∨k=5∨k=6∨k=7∨k=8 by omega)with rfl|rfl|rfl|rfl|rfl|rfl|rfl|rfl<;>refine⟨?_,?_⟩<;>(repeat(first|rfl|rw[if_pos rfl]|rw[if_neg (by decide)]))
theorem bB {H:Type} {P:Program} (w:World) {ops:Array Oper} {rest:List Oper} {o:Oper} {a:Act} {Q:Exit→Act→World→Prop} (hg:o.guard=none) (m x v:Operand) (t:TypeId) (hop:o.op=Op.insert t m x v) (k e:TypeId) (K:Keyed P k) (ht:P.underlying t=some (.map k e)) (R:Value→Option (DataW H×List MemPlace)) (b n:Nat) (D:DataW H) (hm:a.eval m= .map (some b)) (hown:w.ownsMap P k R b n D) (hn:n<maxLen) (key val:Value) (kl:Lit) (hx:a.eval x=key) (hv:a.eval v=val) (hkey:keyOf P k key=some kl) (d:DataW H) (ps:List MemPlace) (hval:R val=some (d,ps)) (hK:∀w',w'.ownsMap P k R b (n+1) (D.put kl d)→w.grownBy w' (some b)→wpList P ops Q rest (a.put o.dst undef) w'):wpList P ops Q (o::rest) a w:=by refine wpList_plain hg fun K' hK'=>?_;obtain⟨w',hrun,r1,r2⟩:=hown.update K ht hn hkey hval;unfold Oper.wp;simp[execOp,hop,hm,hx,hv,hrun,Result.andThen];exact hK' _ _ (hK w' r1 r2)
theorem rS (w:List UInt8) (hw:w.length≤1048576):keyOf Tryz.prog 9 (.string ⟨w.toArray⟩)=some (kE w):=Go.WideMaps.keyOf_string_mk Tryz.underlying9 (s:=⟨w.toArray⟩) (by show w.toArray.size≤maxLen;unfold maxLen;simp;omega)
theorem tY (w:World):Calls Tryz.prog 37 #[] w fun e w'=>∃b,e= .returned (.map (some b))∧w'.ownsMap Tryz.prog 9 lK b 8 rdD∧Below w.heap.size w w':=by
 have m0:=World.ownsMap_made w Tryz.prog 9 lK;have HB0:=aA (Below.alloc (aD w.heap.size w) (Nat.le_refl _) (.map #[] 0))
 have HS0:=HB0.out.size;have hmm:=@run_makeMap Tryz.prog
 have ky1:keyOf Tryz.prog 9 (.string ⟨#[115,101,116]⟩)=some (kE (eY 1)):=rS (eY 1) (by decide);have fv1:lK (.func (.func 66) #[.int .i64 1] #[])=some (.lit (.int .i64 1),[]):=jI (k:=1) (by omega)
 have ky2:keyOf Tryz.prog 9 (.string ⟨#[97,100,100]⟩)=some (kE (eY 2)):=rS (eY 2) (by decide);have fv2:lK (.func (.func 67) #[.int .i64 2] #[])=some (.lit (.int .i64 2),[]):=jI (k:=2) (by omega)
 have ky3:keyOf Tryz.prog 9 (.string ⟨#[109,117,108]⟩)=some (kE (eY 3)):=rS (eY 3) (by decide);have fv3:lK (.func (.func 67) #[.int .i64 3] #[])=some (.lit (.int .i64 3),[]):=jI (k:=3) (by omega)
 have ky4:keyOf Tryz.prog 9 (.string ⟨#[97,112,97,114,116]⟩)=some (kE (eY 4)):=rS (eY 4) (by decide);have fv4:lK (.func (.func 67) #[.int .i64 4] #[])=some (.lit (.int .i64 4),[]):=jI (k:=4) (by omega)
 have ky5:keyOf Tryz.prog 9 (.string ⟨#[100,111]⟩)=some (kE (eY 5)):=rS (eY 5) (by decide);have fv5:lK (.func (.func 67) #[.int .i64 5] #[])=some (.lit (.int .i64 5),[]):=jI (k:=5) (by omega)
 have ky6:keyOf Tryz.prog 9 (.string ⟨#[114,111,117,110,100]⟩)=some (kE (eY 6)):=rS (eY 6) (by decide);have fv6:lK (.func (.func 67) #[.int .i64 6] #[])=some (.lit (.int .i64 6),[]):=jI (k:=6) (by omega)
 have ky7:keyOf Tryz.prog 9 (.string ⟨#[98,97,99,107]⟩)=some (kE (eY 7)):=rS (eY 7) (by decide);have fv7:lK (.func (.func 67) #[.int .i64 7] #[])=some (.lit (.int .i64 7),[]):=jI (k:=7) (by omega)
 have ky8:keyOf Tryz.prog 9 (.string ⟨#[115,104,111,119]⟩)=some (kE (eY 8)):=rS (eY 8) (by decide);have fv8:lK (.func (.func 67) #[.int .i64 8] #[])=some (.lit (.int .i64 8),[]):=jI (k:=8) (by omega)
 go_enter Tryz.func37,Tryz.ntmps37
 go_wp2_with (first
  |(refine bB _ rfl _ _ _ 57 rfl 9 55 (string_keyed Tryz.underlying9) Tryz.underlying57 lK w.heap.size 7 _ rfl m7 (by decide) _ _ (kE (eY 8)) rfl rfl ky8 (.lit (.int .i64 8)) [] fv8 ?_;intro w8 m8 g8;have HB8:=aA (HB7.out.grown g8 HB7.out.size (fun q e=>by cases e;exact Nat.le_refl _));clear g8)
  |(refine bB _ rfl _ _ _ 57 rfl 9 55 (string_keyed Tryz.underlying9) Tryz.underlying57 lK w.heap.size 6 _ rfl m6 (by decide) _ _ (kE (eY 7)) rfl rfl ky7 (.lit (.int .i64 7)) [] fv7 ?_;intro w7 m7 g7;have HB7:=aA (HB6.out.grown g7 HB6.out.size (fun q e=>by cases e;exact Nat.le_refl _));clear g7)
  |(refine bB _ rfl _ _ _ 57 rfl 9 55 (string_keyed Tryz.underlying9) Tryz.underlying57 lK w.heap.size 5 _ rfl m5 (by decide) _ _ (kE (eY 6)) rfl rfl ky6 (.lit (.int .i64 6)) [] fv6 ?_;intro w6 m6 g6;have HB6:=aA (HB5.out.grown g6 HB5.out.size (fun q e=>by cases e;exact Nat.le_refl _));clear g6)
  |(refine bB _ rfl _ _ _ 57 rfl 9 55 (string_keyed Tryz.underlying9) Tryz.underlying57 lK w.heap.size 4 _ rfl m4 (by decide) _ _ (kE (eY 5)) rfl rfl ky5 (.lit (.int .i64 5)) [] fv5 ?_;intro w5 m5 g5;have HB5:=aA (HB4.out.grown g5 HB4.out.size (fun q e=>by cases e;exact Nat.le_refl _));clear g5)
  |(refine bB _ rfl _ _ _ 57 rfl 9 55 (string_keyed Tryz.underlying9) Tryz.underlying57 lK w.heap.size 3 _ rfl m3 (by decide) _ _ (kE (eY 4)) rfl rfl ky4 (.lit (.int .i64 4)) [] fv4 ?_;intro w4 m4 g4;have HB4:=aA (HB3.out.grown g4 HB3.out.size (fun q e=>by cases e;exact Nat.le_refl _));clear g4)
  |(refine bB _ rfl _ _ _ 57 rfl 9 55 (string_keyed Tryz.underlying9) Tryz.underlying57 lK w.heap.size 2 _ rfl m2 (by decide) _ _ (kE (eY 3)) rfl rfl ky3 (.lit (.int .i64 3)) [] fv3 ?_;intro w3 m3 g3;have HB3:=aA (HB2.out.grown g3 HB2.out.size (fun q e=>by cases e;exact Nat.le_refl _));clear g3)
  |(refine bB _ rfl _ _ _ 57 rfl 9 55 (string_keyed Tryz.underlying9) Tryz.underlying57 lK w.heap.size 1 _ rfl m1 (by decide) _ _ (kE (eY 2)) rfl rfl ky2 (.lit (.int .i64 2)) [] fv2 ?_;intro w2 m2 g2;have HB2:=aA (HB1.out.grown g2 HB1.out.size (fun q e=>by cases e;exact Nat.le_refl _));clear g2)
  |(refine bB _ rfl _ _ _ 57 rfl 9 55 (string_keyed Tryz.underlying9) Tryz.underlying57 lK w.heap.size 0 _ rfl m0 (by decide) _ _ (kE (eY 1)) rfl rfl ky1 (.lit (.int .i64 1)) [] fv1 ?_;intro w1 m1 g1;have HB1:=aA (HB0.out.grown g1 HB0.out.size (fun q e=>by cases e;exact Nat.le_refl _));clear g1))
 go_ret;refine⟨_,rfl,m8,?_⟩;exact HB8.out
end Go.Proofs.YtkcmamepoplcdaaGreatDoor
namespace Go.Proofs.YtkcmamepoplcdaaGreatDoor
open Go.RowKit
set_option linter.unusedVariables false
set_option linter.unusedSimpArgs false
theorem DE {x y d e:Int} {p:List UInt8} (h:dS ⟨x,y,d,e⟩=p) (w:World):Calls Tryz.prog 93 #[.agg #[.int .i64 x,.int .i64 y,.int .i64 d,.int .i64 e]] w fun r w'=>r= .returned (.string ⟨p.toArray⟩)∧Below w.heap.size w w':=by rw[←h];exact uL x y d e w
theorem xO {n:Nat} {p:List UInt8} (h:Lib.decDigits n=p) (hn:n≤9223372036854775807) (w:World) (hT:Tb w):Calls Tryz.prog 44 #[.int .i64 (n:Int)] w fun r w'=>r= .returned (.string ⟨p.toArray⟩)∧Below w.heap.size w w':=by rw[←h];exact xN n hn w hT
theorem eU (C:Nat) (hC:C≤9223372036854775807) (x y d e:Int) (hm:M.ok ⟨x,y,d,e⟩=true) (w:World) (hT:Tb w):Calls Tryz.prog 62 #[.agg #[.int .i64 (C:Int),.int .i64 x,.int .i64 y,.int .i64 d,.int .i64 e]] w fun r w'=>r= .returned (.string ⟨(eP ⟨(C:Int),⟨x,y,d,e⟩⟩).toArray⟩)∧Below w.heap.size w w':=by
 obtain⟨MT,hMT⟩:∃MT,dS ⟨x,y,d,e⟩=MT:=⟨_,rfl⟩
 have hml:MT.length≤12:=by rw[←hMT];exact lT hm
 obtain⟨DT,hDT⟩:∃DT,Lib.decDigits C=DT:=⟨_,rfl⟩
 have hdl:DT.length≤20:=by rw[←hDT];exact zB hC
 have htrm:eP ⟨(C:Int),⟨x,y,d,e⟩⟩=if x=0∧y=0∧d=0∧e=0 then DT else if(C:Int)=1 then MT else DT++MT:=by show(if x=0∧y=0∧d=0∧e=0 then Lib.decDigits C else if(C:Int)=1 then dS ⟨x,y,d,e⟩else Lib.decDigits C++dS ⟨x,y,d,e⟩)=_;rw[hMT,hDT]
 rw[htrm];have b0:=aF w (.cells #[.int .i64 (C:Int),.int .i64 x,.int .i64 y,.int .i64 d,.int .i64 e] 79)
 have HT0:=aA (hT.below b0);have HB0:=aA b0
 clear htrm hT b0;by_cases hz:x=0∧y=0∧d=0∧e=0
 ·rw[if_pos hz];obtain⟨rfl,rfl,rfl,rfl⟩:=hz;have HC:=aA (xO hDT hC _ HT0.out)
  clear hMT hDT;go_enter Tryz.func62,Tryz.ntmps62;go_wp2_with fail;refine HC.out.mono ?_;rintro r w1 ⟨rfl,hb⟩;have HB1:=aA (aC HB0.out hb)
  clear hb;go_wp2;go_ret;exact⟨rfl,HB1.out⟩
 ·rw[if_neg hz];have key:¬x=0∨(x=0∧¬y=0)∨(x=0∧y=0∧¬d=0)∨(x=0∧y=0∧d=0∧¬e=0):=by omega
  clear hz;by_cases h1:(C:Int)=1
  ·rw[if_pos h1];have HC:=aA (DE hMT (w.alloc (.cells #[.int .i64 1,.int .i64 x,.int .i64 y,.int .i64 d,.int .i64 e] 79)))
   rw[h1]at HB0⊢;clear hMT hDT h1 HT0;rcases key with k1|⟨rfl,k1⟩|⟨rfl,rfl,k1⟩|⟨rfl,rfl,rfl,k1⟩
   all_goals(
    go_enter Tryz.func62,Tryz.ntmps62;go_wp2_with fail;refine HC.out.mono ?_;rintro r w1 ⟨rfl,hb⟩;have HB1:=aA (aC HB0.out hb)
    clear hb;go_wp2;go_ret
    exact⟨rfl,HB1.out⟩)
  ·rw[if_neg h1];have h1b:((C:Int)==1)=false:=beq_eq_false_iff_ne.2 h1
   have hsz:¬(DT.length+MT.length>9223372036854775807):=by omega
   have hsz2:¬(9223372036854775807<DT.length+MT.length):=by omega
   obtain⟨W,hW⟩:∃W,w.alloc (.cells #[.int .i64 (C:Int),.int .i64 x,.int .i64 y,.int .i64 d,.int .i64 e] 79)=W:=⟨_,rfl⟩
   have q0:w.heap.size<W.heap.size:=by rw[←hW];simp
   have ne:=dF.there W;have gg:∀j:Nat,W.cell? ⟨w.heap.size,j,none⟩=#[Value.int .i64 (C:Int),.int .i64 x,.int .i64 y,.int .i64 d,.int .i64 e][j]? :=fun j=>by rw[←hW,World.cell?_alloc_at _ _ _ _ rfl]
   have s0:∀u:dF W,u.1.cell? ⟨w.heap.size,0,none⟩=some (.int .i64 (C:Int)):=fun u=>(u.cell q0).trans (gg 0);have s1:∀u:dF W,u.1.cell? ⟨w.heap.size,1,none⟩=some (.int .i64 x):=fun u=>(u.cell q0).trans (gg 1)
   have s2:∀u:dF W,u.1.cell? ⟨w.heap.size,2,none⟩=some (.int .i64 y):=fun u=>(u.cell q0).trans (gg 2);have s3:∀u:dF W,u.1.cell? ⟨w.heap.size,3,none⟩=some (.int .i64 d):=fun u=>(u.cell q0).trans (gg 3)
   have s4:∀u:dF W,u.1.cell? ⟨w.heap.size,4,none⟩=some (.int .i64 e):=fun u=>(u.cell q0).trans (gg 4);rw[hW]at HT0 HB0;have HT:∀u:dF W,Tb u.1:=fun u=>HT0.out.below u.2
   have HTT:=aA HT;have HWW:=aA hW
   clear HT gg hW;rcases key with k1|⟨rfl,k1⟩|⟨rfl,rfl,k1⟩|⟨rfl,rfl,rfl,k1⟩
   all_goals(
    go_enter Tryz.func62,Tryz.ntmps62;go_wp2_with fail;simp only[HWW.out];clear HWW;refine aS (by kernel_rfl) (by kernel_rfl) ?_;repeat(go_big_quiet_step (first|(go_at_call 44;exact bD (xO (by with_reducible assumption) hC _ (HTT.out _)))|(go_at_call 93;exact bD (DE (by with_reducible assumption) _))|fail))
    refine wpQuiet_nil ?_;rintro _ ⟨v,rfl⟩;have HV:=aA (aC HB0.out v.2)
    clear s0 s1 s2 s3 s4 ne hMT hDT;go_wp2;go_ret
    exact⟨by first|rfl|(congr 2;apply ByteArray.ext;simp[ByteArray.data_append];done),HV.out⟩)
open Go.Shelf Go.RowKit
theorem sG (c:UInt8):∀(l:List UInt8) (acc:Nat),Lib.parseUint10 acc (l++[c])=match Lib.parseUint10 acc l with| .ok u=>Lib.parseUint10 u [c]| .syntax=>.syntax| .range=>.range
 |[],acc=>rfl
 |x::l,acc=>by
  rw[List.cons_append];unfold Lib.parseUint10;by_cases h:48≤x.toNat∧x.toNat≤57
  ·rw[if_pos h,if_pos h];by_cases h1:1844674407370955162≤acc
   ·rw[if_pos h1,if_pos h1]
   ·rw[if_neg h1,if_neg h1];by_cases h2:18446744073709551616≤acc*10+(x.toNat-48)
    ·rw[if_pos h2,if_pos h2]
    ·rw[if_neg h2,if_neg h2];exact sG c l _
  ·rw[if_neg h,if_neg h]
theorem wK {u d:Nat} (hu:u<1000000) (hd:d<10):Lib.parseUint10 u [UInt8.ofNat (48+d)]= .ok (u*10+d):=by
 have e:(UInt8.ofNat (48+d)).toNat=48+d:=by rw[UInt8.toNat_ofNat'];omega
 unfold Lib.parseUint10;rw[e,if_pos (by omega),if_neg (by omega),if_neg (by omega)];unfold Lib.parseUint10;congr 1;omega
theorem sF {n:Nat} (h:n<10):Lib.parseUint10 0 (Lib.decDigits n)= .ok n:=by
 rw[cQ h];have:=wK (u:=0) (by omega) h
 simpa using this
theorem IY {n:Nat} (h:n<100):Lib.parseUint10 0 (Lib.decDigits n)= .ok n:=by
 by_cases h1:n<10
 ·exact sF h1
 ·rw[cT h1,sG,sF (n:=n / 10) (by omega)];show Lib.parseUint10 (n / 10) [UInt8.ofNat (48+n%10)]=_
  rw[wK (by omega) (by omega)];congr 1;omega
theorem IZ {n:Nat} (h:n<1000):Lib.parseUint10 0 (Lib.decDigits n)= .ok n:=by
 by_cases h1:n<10
 ·exact sF h1
 ·rw[cT h1,sG,IY (n:=n / 10) (by omega)];show Lib.parseUint10 (n / 10) [UInt8.ofNat (48+n%10)]=_
  rw[wK (by omega) (by omega)];congr 1;omega
theorem tM {d:List UInt8} (hd:∀c∈d,jK c=true) (h0:d≠[]):Lib.atoiAll d=Lib.signless (Lib.parseUint10 0 d):=by
 cases d with
 |nil=>exact absurd rfl h0
 |cons c r=>
  have hc:=of_decide_eq_true (hd c (by simp));rw[Lib.atoiAll_plain c r (by omega) (by omega)];unfold Lib.parseMag;rw[if_neg (by simp)]
theorem MJ {d:List UInt8} (hd:∀c∈d,jK c=true) (h0:d≠[]) {v:Int} (h:Lib.atoiAll d= .ok v):0≤v∧v≤9223372036854775807:=by
 rw[tM hd h0]at h;refine⟨?_,(Lib.signless_bounds h).2⟩;cases e:Lib.parseUint10 0 d with
 |ok u=>
  rw[e]at h;unfold Lib.signless at h;split at h<;>first|cases h|(rename_i q;cases q;split at h<;>cases h;omega)|skip
 |«syntax»=>rw[e]at h;cases h
 |range=>rw[e]at h;cases h
theorem JZ {n:Nat} (h:n≤100):Lib.atoiAll (Lib.decDigits n)= .ok (n:Int):=by have hd:∀c∈Lib.decDigits n,jK c=true:=iJ n (by omega);rw[tM hd (vS n),IZ (by omega)];unfold Lib.signless;simp;omega
def sY (d:List UInt8):Option Int:=if d=[]then some 1 else match Lib.atoiAll d with| .ok v=>some v|_=>none
def pI (r:List UInt8):Option M:=if r=[]then some ⟨0,0,0,0⟩else if(iX r).2=true then some (iX r).1 else none
def dY (s:List UInt8):T×Bool:=match sY (cA s),pI (s.drop (cA s).length)with
 |some c,some m=>(⟨c,m⟩,decide (eP ⟨c,m⟩=s))
 |_,_=>(⟨0,⟨0,0,0,0⟩⟩,false)
theorem EQ {s:List UInt8} (h:sY (cA s)=none):dY s=(⟨0,⟨0,0,0,0⟩⟩,false):=by unfold dY;rw[h]
theorem ER {s:List UInt8} {c:Int} (hc:sY (cA s)=some c) (h:pI (s.drop (cA s).length)=none):dY s=(⟨0,⟨0,0,0,0⟩⟩,false):=by unfold dY;rw[hc,h]
theorem yL {s:List UInt8} {c:Int} {m:M} (hc:sY (cA s)=some c) (h:pI (s.drop (cA s).length)=some m):dY s=(⟨c,m⟩,decide (eP ⟨c,m⟩=s)):=by unfold dY;rw[hc,h]
theorem DA {r:List UInt8} {m:M} (h:pI r=some m):M.ok m=true:=by
 unfold pI at h;split at h
 ·cases h;decide
 ·split at h
  ·rename_i q;cases h;rw[qN]at q⊢;split at q
   ·rename_i z;rw[if_pos z];exact z.2.1
   ·cases q
  ·cases h
theorem JP {m:M} (h:M.ok m=true) (hne:cG m≠[]):pI (cG m)=some m:=by
 have hl:(cG m).length≤40:=by have:=lT h;rw[eS h hne]at this;omega
 have e:iX (cG m)=(m,true):=by rw[qN,ES h hne,if_pos ⟨hl,h,eS h hne⟩]
 unfold pI;rw[if_neg hne,e,if_pos rfl]
theorem JS (s:List UInt8):MH s (dY s).1 (dY s).2:=by
 refine⟨fun hb _=>?_,fun t0 hk hs=>?_⟩
 ·unfold dY at hb⊢;split at hb
  ·exact of_decide_eq_true hb
  ·cases hb
 ·have hd:∀c∈vJ t0.c,jK c=true:=fun c hc=>iJ _ (by have:=hk.1.2;omega) c hc;have hdn:vJ t0.c≠[]:=vS _
  have hcc:sY (vJ t0.c)=some t0.c:=by
   unfold sY;rw[if_neg hdn];have:=JZ (n:=t0.c.toNat) (by have:=hk.1.2;omega)
   unfold vJ;rw[this];show some _=_
   congr 1;have:=hk.1.1
   omega
  have fin:∀c m,sY (cA s)=some c→pI (s.drop (cA s).length)=some m→(⟨c,m⟩:T)=t0→(dY s).1=t0∧(dY s).2=true:=fun c m h1 h2 h3=>by rw[yL h1 h2,h3];exact⟨rfl,decide_eq_true hs⟩
  rcases t0 with⟨c,m⟩
  simp only at hd hdn hcc hk;by_cases h0:m.x=0∧m.y=0∧m.d=0∧m.e=0
  ·have e:s=vJ c:=by rw[←hs];unfold eP;rw[if_pos h0]
   have hl:cA s=vJ c:=by
    rw[e];have:=eA hd (t:=[]) (fun c r q=>by cases q)
    rwa[List.append_nil]at this
   refine fin c m (by rw[hl];exact hcc) ?_ rfl;rw[hl,e,List.drop_length];unfold pI;rw[if_pos rfl];rcases m with⟨x,y,d,z⟩
   obtain⟨rfl,rfl,rfl,rfl⟩:=h0;rfl
  ·obtain⟨k,r,e,_⟩:=gY hk.2 h0;have hne:cG m≠[]:=by rw[e];simp
   by_cases h1:c=1
   ·have e2:s=cG m:=by rw[←hs];unfold eP;rw[if_neg h0,if_pos h1,eS hk.2 hne]
    have hl:cA s=[]:=by rw[e2];exact eA (d:=[]) (fun _ q=>by cases q) (oP hk.2)
    refine fin 1 m (by rw[hl];rfl) ?_ (by rw[h1]);rw[hl,e2];exact JP hk.2 hne
   ·have e2:s=vJ c++cG m:=by rw[←hs];unfold eP;rw[if_neg h0,if_neg h1,eS hk.2 hne]
    have hl:cA s=vJ c:=by rw[e2];exact eA hd (oP hk.2)
    refine fin c m (by rw[hl];exact hcc) ?_ rfl;rw[hl,e2,List.drop_left];exact JP hk.2 hne
theorem KA (l:List UInt8) (hl:l.length≤1000) (hn:l≠[]) (w:World) (h:Er w):Calls Tryz.prog 159 #[.string ⟨l.toArray⟩] w fun e w'=>Below w.heap.size w w'∧((∃v,sY l=some v∧e= .returned (.tuple #[.int .i64 v,.nilIface]))∨(sY l=none∧∃v t N,e= .returned (.tuple #[.int .i64 v,.iface t (.pointer (some ⟨N,0,none⟩))]))):=by
 have hs:(⟨l.toArray⟩:ByteArray).size=l.length:=gJ l;cases hv:Lib.atoiAll l with
 |ok v=>
  refine(Any.strconv_Atoi_ok layC172 ⟨l.toArray⟩ (by rw[hs];omega) v hv w).mono ?_;rintro e w' ⟨rfl,hw⟩;refine⟨?_,.inl ⟨v,?_,rfl⟩⟩
  ·rcases hw with rfl|⟨t,rfl⟩
   ·exact aD _ _
   ·exact pX w _ t
  ·unfold sY;rw[if_neg hn,hv]
 |«syntax»=>
  obtain⟨t,p,ht⟩:=h.1;refine(Any.strconv_Atoi_syntax_var layC172 ⟨l.toArray⟩ (by rw[hs];omega) hv t p w ht).mono ?_;rintro e w' ⟨N,rfl,_,_,hb⟩;exact⟨hb,.inr ⟨by unfold sY;rw[if_neg hn,hv],_,_,_,rfl⟩⟩
 |range=>
  obtain⟨t,p,ht⟩:=h.2;refine(Any.strconv_Atoi_range_var layC172 ⟨l.toArray⟩ (by rw[hs];omega) hv t p w ht).mono ?_;rintro e w' ⟨N,rfl,_,_,hb⟩;exact⟨hb,.inr ⟨by unfold sY;rw[if_neg hn,hv],_,_,_,rfl⟩⟩
end Go.Proofs.YtkcmamepoplcdaaGreatDoor
