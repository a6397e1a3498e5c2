/-
  The model cuts texts at each '+' and reads operators (l3Cut, PolRead).
-/
import Derived.Test.YtkcmamepoplcdaaGreatDoorXaw
import Derived.Test.YtkcmamepoplcdaaGreatDoorXaz
import Derived.Shelf.Strings.Search3
import Derived.Shelf.Strings.Cut
import Derived.Shelf.Strings.Split
import Derived.Shelf.LaysM
import Derived.StringKeys
import Derived.Test.YtkcmamepoplcdaaGreatDoorXaq
set_option maxHeartbeats 4000000
set_option maxRecDepth 100000
namespace Go.Proofs.YtkcmamepoplcdaaGreatDoor
open Go.RowKit
set_option linter.unusedVariables false
set_option linter.unusedSimpArgs false
def tL (s:List UInt8):List (List UInt8):=if s.length≤400 then aV s else[]
theorem vB:∀s:List UInt8,(aV s).length≤s.length+1
 |[]=>by simp[aV]
 |c::r=>by
  have:=vB r;unfold aV;split
  ·simp;omega
  ·cases e:aV r with
   |nil=>exact absurd e (jF r)
   |cons h t=>rw[e]at this;simp[jK]at this⊢;omega
theorem gT:∀(s:List UInt8) (w:List UInt8),w∈aV s→w.length≤s.length
 |[],w,h=>by simp[aV]at h;subst h;simp
 |c::r,w,h=>by
  unfold aV at h;split at h
  ·rcases List.mem_cons.1 h with e|e
   ·subst e;simp
   ·have:=gT r w e;simp;omega
  ·cases q:aV r with
   |nil=>exact absurd q (jF r)
   |cons a t=>
    rw[q]at h;rcases List.mem_cons.1 h with e|e
    ·subst e;have:=gT r a (by rw[q];simp)
     simp;omega
    ·have:=gT r w (by rw[q];simp[e]);simp;omega
theorem CW (c:UInt8):UInt8.ofNat (((c.toNat:Int))%256).toNat=c:=by
 have h:c.toNat<256:=c.toNat_lt;have e:((c.toNat:Int)%256).toNat=c.toNat:=by omega
 rw[e];simp
theorem uD (w:World) (c:UInt8) (t:TypeId):(convert 35 9 (.slice (some ⟨w.heap.size,0,none⟩) 1 1)).run Tryz.prog (w.alloc (Obj.cells #[.int .u8 (c.toNat:Int)] t))= .ok (.string ⟨#[c]⟩) (w.alloc (Obj.cells #[.int .u8 (c.toNat:Int)] t)):=by
 have h:c.toNat<256:=c.toNat_lt;have:=IH w (c.toNat:Int) t
 rw[CW,show((c.toNat:Int))%256=(c.toNat:Int) by omega]at this;exact this
def UL (w:World) (o:List (List UInt8)) (v:Value) (wr:World):Prop:=oJ w.heap.size v o wr∧Below w.heap.size w wr
theorem PI (s:List UInt8) (hs:s.length≤1048576) (w:World):Calls Tryz.prog 63 #[.string ⟨s.toArray⟩] w fun r w'=>∃g cp,r= .returned (.slice (some ⟨g,0,none⟩) (tL s).length cp)∧oJ w.heap.size (.slice (some ⟨g,0,none⟩) (tL s).length cp) (tL s) w'∧Below w.heap.size w w':=by
 have hsI:(s.length:Int)≤1048576:=by omega
 obtain⟨i0,hi0,hz0,hz1,hz2⟩:=info_parts oQ;have HO0:=aA (rR w w.heap.size (Nat.le_refl _))
 have HB0:=aA (aF w (.cells #[] 9));by_cases hl:s.length≤400
 ·have hlI:¬(400:Int)<(s.length:Int):=by omega
  have hlJ:(s.length:Int)≤400:=by omega
  have HE:Hid (tL s=aV s):=by unfold tL;rw[if_pos hl];exact aA rfl
  go_enter Tryz.func63,Tryz.ntmps63;go_wp2;go_loopw [5,3,4] (fun v5 v3 v4 wr=>∃(k g cp n:Nat) (o:List (List UInt8)) (wd:List UInt8),k≤s.length∧n≤k∧v5= .int .i64 (k:Int)∧v3= .slice (some ⟨g,0,none⟩) n cp∧v4= .string ⟨wd.toArray⟩∧wd.length≤k∧Hid (n=o.length∧aV (s.take k)=o++[wd])∧Hid (UL w o (.slice (some ⟨g,0,none⟩) n cp) wr)) (fun v5 _ _ _=>s.length-(intOf v5).toNat);case atStart=>exact⟨0,_,_,0,[],[],gO _,Nat.le_refl _,rfl,rfl,rfl,Nat.le_refl _,aA ⟨rfl,rfl⟩,aA ⟨HO0.out,HB0.out⟩⟩
  case round=>
   obtain⟨k,g,cp,n,o,wd,hk,hnk,rfl,rfl,rfl,hwd,HC,HI⟩:=hrel;have hmax:n+1≤maxLen:=by unfold maxLen;omega
   have hs0:=HI.out.2.size;by_cases hkl:k<s.length
   ·have hkI:(k:Int)<(s.length:Int):=by omega
    obtain⟨c,hc⟩:∃c,s[k]? =some c:=⟨_,List.getElem?_eq_getElem hkl⟩
    have hix:=gJ hc;have htk:s.take (k+1)=s.take k++[c]:=by rw[List.take_add_one,hc];rfl
    by_cases hp:c=43
    ·subst hp;have HC2:Hid (aV (s.take (k+1))=(o++[wd])++[[]]):=by rw[htk,xG,HC.out.2];exact aA rfl
     have HO4:=aA (HI.out.1.alloc (.cells #[.string ⟨wd.toArray⟩] 9));have HB4:=aA (HI.out.2.alloc hs0 (.cells #[.string ⟨wd.toArray⟩] 9))
     have HN:=aA (heap_alloc_new wr (.cells #[.string ⟨wd.toArray⟩] 9));clear hc htk;have hix':∀u:World,(Instr.index 9 (.string ⟨s.toArray⟩) (.int .i64 (k:Int))).run Tryz.prog u= .ok (.int .u8 43) u:=fun u=>hix u
     clear hix;go_wp2_with (at_builtin;refine wpList_append_lies _ rfl (.tmp 21) (.tmp 23) 30 rfl w.heap.size 9 i0 _ 1 16 Tryz.underlying30 hi0 hz0 hz1 hz2 rfl (by omega) _ n (uM o) rfl (HC.out.1▸HO4.out) ⟨wr.heap.size,0,none⟩ 1 1 [.string ⟨wd.toArray⟩] rfl rfl (World.news_of_block HN.out) (hU _) (by omega) hmax (by omega) (by simp;omega) _ rfl ?_;intro g1 cap1 w7 hown2 hgrow2 hat2 hlt2;have HO7:=aA hown2;have HB7:=aA (HB4.out.grown hgrow2 (by simp;omega) (fun k' e'=>(HO4.out.lt k' e').1));clear hown2 hgrow2 hat2 hlt2);go_roundw
     case rel=>exact⟨k+1,g1,cap1,n+1,o++[wd],[],by omega,by omega,by go_num,rfl,rfl,by simp,aA ⟨by rw[HC.out.1];simp,HC2.out⟩,aA ⟨by
      have:=HO7.out;show World.ownsRow _ _ _ _ _ _ _
      rw[kO,List.length_append,←HC.out.1];exact this,HB7.out⟩⟩
     case measure=>simp[intOf];omega
    ·have HC2:Hid (aV (s.take (k+1))=o++[wd++[c]]):=by rw[htk,xF hp,HC.out.2,pC];exact aA rfl
     have hcv:=uD wr c 5;have HB4:=aA (HI.out.2.alloc hs0 (.cells #[.int .u8 (c.toNat:Int)] 5))
     have HO4:=aA (HI.out.1.alloc (.cells #[.int .u8 (c.toNat:Int)] 5))
     have hp43:(c.toNat:Int)≠43:=fun e=>hp (by
      apply UInt8.toNat_inj.1;have:c.toNat=43:=by omega
      rw[this];rfl)
     have hpb:((c.toNat:Int)==43)=false:=beq_eq_false_iff_ne.2 hp43;have hsz:¬(9223372036854775807<wd.length+1):=by omega
     clear hc htk hp hp43;go_wp2;go_roundw;case rel=>exact⟨k+1,g,cp,n,o,wd++[c],by omega,by omega,by go_num,rfl,by first|rfl|exact congrArg Value.string (pU wd c)|(simp;exact pU wd c),by simp;omega,aA ⟨HC.out.1,HC2.out⟩,aA ⟨HO4.out,HB4.out⟩⟩
     case measure=>simp[intOf];omega
   ·have hke:k=s.length:=by omega
    have hnl:¬(k:Int)<(s.length:Int):=by omega
    have HCE:Hid (tL s=o++[wd]):=by
     rw[HE.out];have:=HC.out.2
     rw[hke,List.take_length]at this;exact aA this
    clear hke;have HO4:=aA (HI.out.1.alloc (.cells #[.string ⟨wd.toArray⟩] 9))
    have HB4:=aA (HI.out.2.alloc hs0 (.cells #[.string ⟨wd.toArray⟩] 9));have HN:=aA (heap_alloc_new wr (.cells #[.string ⟨wd.toArray⟩] 9))
    go_wp2_with (at_builtin;refine wpList_append_lies _ rfl (.tmp 32) (.tmp 34) 30 rfl w.heap.size 9 i0 _ 1 16 Tryz.underlying30 hi0 hz0 hz1 hz2 rfl (by omega) _ n (uM o) rfl (HC.out.1▸HO4.out) ⟨wr.heap.size,0,none⟩ 1 1 [.string ⟨wd.toArray⟩] rfl rfl (World.news_of_block HN.out) (hU _) (by omega) hmax (by omega) (by simp;omega) _ rfl ?_;intro g1 cap1 w7 hown2 hgrow2 hat2 hlt2;have HO7:=aA hown2;have HB7:=aA (HB4.out.grown hgrow2 (by simp;omega) (fun k' e'=>(HO4.out.lt k' e').1));clear hown2 hgrow2 hat2 hlt2);go_ret;have hn1:n+1=(tL s).length:=by rw[HCE.out];simp[HC.out.1]
    refine⟨g1,cap1,by rw[hn1];rfl,?_,HB7.out⟩;have:=HO7.out
    show World.ownsRow _ _ _ _ _ _ _;rw[←hn1,HCE.out,kO];exact this
 ·have hlI:(400:Int)<(s.length:Int):=by omega
  have HE:Hid (tL s=[]):=by unfold tL;rw[if_neg hl];exact aA rfl
  clear hl;go_enter Tryz.func63,Tryz.ntmps63;go_wp2;go_ret;exact⟨_,0,by rw[HE.out];rfl,by rw[HE.out];exact HO0.out,HB0.out⟩
open Go.Shelf Go.RowKit
theorem BN:∀{l:List UInt8},Lib.indexByte l 43<0→aV l=[l]
 |[],_=>rfl
 |b::l,h=>by
  unfold Lib.indexByte at h;split at h
  ·omega
  ·rename_i hb;have hb':b≠43:=by simpa using hb
   split at h
   ·rename_i h1;have h1':Lib.indexByte l 43= -1:=by simpa using h1
    rw[xE,if_neg hb',BN (l:=l) (by omega)];rfl
   ·have:=Lib.indexByte_ge l 43;omega
theorem BO:∀{l:List UInt8} {i:Nat},Lib.indexByte l 43=(i:Int)→i+1≤l.length∧aV l=l.take i::aV (l.drop (i+1))
 |[],i,h=>by unfold Lib.indexByte at h;omega
 |b::l,i,h=>by
  unfold Lib.indexByte at h;split at h
  ·rename_i hb;have hb':b=43:=by simpa using hb
   have hi:i=0:=by omega
   subst hi hb';refine⟨by simp,?_⟩;rw[xE,if_pos rfl];rfl
  ·rename_i hb;have hb':b≠43:=by simpa using hb
   split at h
   ·omega
   ·obtain⟨j,rfl⟩:∃j,i=j+1:=⟨i-1,by
     have:=Lib.indexByte_ge l 43;rename_i h1;have h1':Lib.indexByte l 43≠ -1:=by simpa using h1
     omega⟩
    obtain⟨h2,h3⟩:=BO (l:=l) (i:=j) (by omega);refine⟨by simp;omega,?_⟩;rw[xE,if_neg hb',h3];rfl
shelf_lay Lays.n143 Nm 143 at Tryz as lay143
theorem PG (l:List UInt8) (w:World):Calls Tryz.prog 97 #[.string ⟨l.toArray⟩,.string ⟨#[43]⟩] w fun e w'=>e= .returned (.int .i64 (Lib.indexByte l 43))∧w'=w:=Any.strings_Index_one lay143 ⟨l.toArray⟩ 43 w
def PA (x:List UInt8):Array Value:=#[.string ⟨x.toArray⟩]
def EO (W:World) (lo:Nat) (l:List UInt8):Prop:=Boxed W lo 9 (.string ⟨l.toArray⟩)∧Boxed W (lo+1) 9 (.string ⟨#[43]⟩)∧Boxed W (lo+2) 3 (.int .i64 0)
theorem EO.keep {W W':World} {lo:Nat} {l:List UInt8} (h:EO W lo l) (hk:mZ lo (lo+3) W W'):EO W' lo l:=⟨(hk.2 _ (by omega) (by omega)).trans h.1,(hk.2 _ (by omega) (by omega)).trans h.2.1,(hk.2 _ (by omega) (by omega)).trans h.2.2⟩
theorem EO.set {W:World} {lo:Nat} {l:List UInt8} (h:EO W lo l) (l':List UInt8):EO (W.setCell ⟨lo,0,none⟩ (.string ⟨l'.toArray⟩)) lo l':=⟨h.1.set _,h.2.1.other (by omega) _,h.2.2.other (by omega) _⟩
def UF (lo:Nat) (W:World):Nat:=match W.cell? ⟨lo,0,none⟩with|some (.string b)=>b.size|_=>0
theorem JO {W:World} {lo:Nat} {l:List UInt8} (h:EO W lo l):UF lo W=l.length:=by unfold UF;rw[h.1.cell];exact jY l
theorem QD (s:List UInt8) (hs:s.length≤1048576) (lo:Nat) (w:World) (hb:EO w lo s):OG Tryz.prog 179 #[.pointer (some ⟨lo+1,0,none⟩),.pointer (some ⟨lo,0,none⟩),.pointer (some ⟨lo+2,0,none⟩)] PA lo (lo+3) (aV s) w:=by
 intro l J Jx W hW hJ hJb hY h0;have hlt:lo+2<w.heap.size:=hb.2.2.lt
 have hB0:EO W lo s:=hb.keep (mZ.below hW (by omega));have HJ:=aA hJ
 have HJB:=aA hJb;have HY:Hid (∀pre x W1,J pre W1→pre++[x]<+:aV s→YieldAt Fence.wide 8 Tryz.prog l (#[.string ⟨x.toArray⟩]) W1 fun e W'=>(e= .returned (.bool true)∧J (pre++[x]) W'∧mZ lo (lo+3) W1 W')∨(e= .returned (.bool false)∧Jx (pre++[x]) W')):=aA (fun pre x W1 a b=>UG 8 (hY pre x W1 a b))
 clear hJ hJb hY hW hb;refine(callsIn_wide (n:=9)).1 ?_;refine callsIn_of_wp Tryz.func179 rfl trivial ?_ rfl;simp only[Tryz.ntmps179,List.size_toArray,List.length_cons,List.length_nil,Nat.reduceAdd,Nat.reduceSub,Array.replicate_succ,Array.replicate_zero,List.push_toArray,List.append_toArray,List.nil_append,List.cons_append];have c1:=hB0.2.1.cell
 gi_wp2
 clear c1
 gi_loopw [7] (fun v wr=>∃(lr:List UInt8) (pre:List (List UInt8)),lr.length≤1048576∧Hid (pre++aV lr=aV s)∧Hid (J pre wr)∧Hid (EO wr lo lr)) (fun _ wr=>UF lo wr)
 case atStart=>exact⟨s,[],hs,aA rfl,aA h0,aA hB0⟩
 case round=>
  obtain⟨lr,pre,hlr,HC,HJP,HB⟩:=hrel;have HSZ:=aA (JO HB.out)
  obtain⟨b1,b2,b3⟩:=HB.out;have c1:=b1.cell
  have c2:=b2.cell;have c3:=b3.cell
  have z1:=b1.frozen;clear b1 b2 b3;have hix:=PG lr wr
  by_cases hn:Lib.indexByte lr 43<0
  ·have HCE:Hid (pre++[lr]=aV s):=by rw[←HC.out,BN hn];exact aA rfl
   obtain⟨fn,tmps,assign,body,hyl,hRd⟩:=HY.out pre lr wr HJP.out (by rw[HCE.out];exact List.prefix_rfl);obtain⟨iv,hiv⟩:∃iv,Lib.indexByte lr 43=iv:=⟨_,rfl⟩
   rw[hiv]at hn hix;have HIX:=aA hix
   clear hiv hix
   gi_wp2_with (first
    |(refine⟨trivial,?_⟩;gi_at_call 97;refine(callsIn_wide.2 HIX.out).mono ?_;rintro e w4 ⟨rfl,hw4⟩;obtain rfl:=hw4.symm;clear hw4)
    |gi_in)
   refine hRd.mono ?_;rintro e W3 (⟨rfl,hJ3,hk3⟩|⟨rfl,hJx3⟩)
   ·gi_wp2
    go_end0
    exact⟨⟨_,rfl⟩,.inl (by rw[←HCE.out];exact hJ3)⟩
   ·gi_wp2
    go_end0
    exact⟨⟨_,rfl⟩,.inr ⟨_,by rw[HCE.out];exact List.prefix_rfl,hJx3⟩⟩
  ·obtain⟨i,hi⟩:∃i:Nat,Lib.indexByte lr 43=(i:Int):=⟨(Lib.indexByte lr 43).toNat,by omega⟩
   obtain⟨hil,hcut⟩:=BO hi;have HCE:Hid ((pre++[lr.take i])++aV (lr.drop (i+1))=aV s):=by rw[←HC.out,hcut];exact aA (by simp)
   obtain⟨fr,hfr⟩:∃fr,lr.take i=fr:=⟨_,rfl⟩
   obtain⟨re,hre⟩:∃re,lr.drop (i+1)=re:=⟨_,rfl⟩
   have hrel:re.length<lr.length:=by rw[←hre];simp;omega
   have hto:=fun u=>AL (l:=lr) (k:=i) (by omega) u;have hfm:=fun u=>EF (l:=lr) (k:=i) hil u
   rw[hfr]at HCE hto;rw[hre]at HCE hfm;rw[hi]at hix;have HIX:=aA hix
   have hiI:(i:Int)≤1048576:=by omega
   obtain⟨fn,tmps,assign,body,hyl,hRd⟩:=HY.out pre fr wr HJP.out (by rw[←HCE.out];exact⟨_,rfl⟩);clear hix hi hcut hfr hre hn
   gi_wp2_with (first
    |(refine⟨trivial,?_⟩;gi_at_call 97;refine(callsIn_wide.2 HIX.out).mono ?_;rintro e w4 ⟨rfl,hw4⟩;obtain rfl:=hw4.symm;clear hw4)
    |gi_in)
   refine hRd.mono ?_;rintro e W3 (⟨rfl,hJ3,hk3⟩|⟨rfl,hJx3⟩)
   ·have hB3:=HB.out.keep hk3;obtain⟨b1,b2,b3⟩:=hB3;clear c1 c2 c3 z1;have c1:=b1.cell
    have c2:=b2.cell;have c3:=b3.cell
    have z1:=b1.frozen;have HB4:=aA (EO.set ⟨b1,b2,b3⟩ re)
    have HJ4:=aA (HJB.out _ _ lo (.string ⟨re.toArray⟩) (Nat.le_refl _) (by omega) hJ3);clear b1 b2 b3 hk3 hJ3
    gi_wp2
    go_roundw;case rel=>exact⟨re,pre++[fr],by omega,HCE,HJ4,HB4⟩
    case measure=>
     have h1:=JO HB4.out;have h2:=HSZ.out
     omega
   ·gi_wp2
    refine bC (results_none rfl _ _ _) rfl ?_;exact⟨⟨_,rfl⟩,.inr ⟨_,by rw[←HCE.out];exact⟨_,rfl⟩,hJx3⟩⟩
open Go.Shelf Go.RowKit Go.Maps
shelf_lay LaysM.n145 Nm 145 at Tryz as layM145
shelf_lay LaysM.n147 Nm 147 at Tryz as layM147
shelf_lay LaysM.n143 Nm 143 at Tryz as layM143
def EP (w:World):Prop:=∃m,w.cell? ⟨1,0,none⟩=some (.int .i64 m)
theorem EP.below {w w':World} (h:EP w) (hb:Below w.heap.size w w'):EP w':=h.imp fun m e=>(hb.cell (p:=⟨1,0,none⟩) (EU _ _ e)).trans e
theorem QY (l:List UInt8) (hl:l.length≤1048576) (w:World) (h:EP w):Calls Tryz.prog 36 #[.string ⟨l.toArray⟩,.string ⟨#[32]⟩] w fun e w'=>e= .returned (.tuple #[.string ⟨(Lib.cut l [32]).1.toArray⟩,.string ⟨(Lib.cut l [32]).2.1.toArray⟩,.bool (Lib.cut l [32]).2.2])∧Below w.heap.size w w':=by obtain⟨m,hm⟩:=h;refine(Any.strings_Cut layM145.ton145 ⟨l.toArray⟩ ⟨#[32]⟩ m w (by show l.toArray.size<_;simp;omega) hm).mono ?_;rintro e w' ⟨rfl,n,rfl⟩;exact⟨rfl,below_drewN (aD _ _) n⟩
theorem RE (l:List UInt8) (w:World) (h:EP w):Calls Tryz.prog 97 #[.string ⟨#[65,66,67,68,69,70]⟩,.string ⟨l.toArray⟩] w fun e w'=>e= .returned (.int .i64 (wS l))∧w'=w:=by obtain⟨m,hm⟩:=h;exact Any.strings_Index lay143 ⟨#[65,66,67,68,69,70]⟩ ⟨l.toArray⟩ m w (by show(6:Nat)<_;omega) hm
theorem uL:∀(k:Nat) (s:List UInt8),(Lib.splitK [32] 0 k s).length≤k+1
 |0,s=>by simp[Lib.splitK]
 |k+1,s=>by
  unfold Lib.splitK;split
  ·simp
  ·exact Nat.succ_le_succ (uL k _)
theorem EC (s:List UInt8) (k:Nat):1≤(Lib.splitK [32] 0 k s).length:=by
 cases k with
 |zero=>simp[Lib.splitK]
 |succ k=>unfold Lib.splitK;split<;>simp
theorem NE (l:List UInt8) (hl:l.length≤1048576) (n:Nat) (hn:1≤n) (hn3:n≤3) (w:World) (h:EP w):Calls Tryz.prog 98 #[.string ⟨l.toArray⟩,.string ⟨#[32]⟩,.int .i64 n] w fun e w'=>∃cp,e= .returned (.slice (some ⟨w.heap.size,0,none⟩) (Lib.splitN l [32] n).length cp)∧Below w.heap.size w w'∧w.heap.size<w'.heap.size∧∀(j:Nat) (x:List UInt8),(Lib.splitN l [32] n)[j]? =some x→w'.cell? ⟨w.heap.size,j,none⟩=some (.string ⟨x.toArray⟩):=by
 obtain⟨m,hm⟩:=h;have hsz:(⟨l.toArray⟩:ByteArray).size=l.length:=by show l.toArray.size=_;simp
 refine(Any.strings_SplitN layM147.ton147 layM147.i9 ⟨l.toArray⟩ ⟨#[32]⟩ n m w (by rw[hsz];omega) hm (by decide) hn (by omega)).mono ?_;rintro e w' ⟨rfl,rfl⟩;have hd:=Lib.splitB_data ⟨#[32]⟩ 0 (min n ((⟨l.toArray⟩:ByteArray).size+1)-1) ⟨l.toArray⟩
 have hd2:(Lib.splitB ⟨#[32]⟩ 0 (min n ((⟨l.toArray⟩:ByteArray).size+1)-1) ⟨l.toArray⟩).map (·.data.toList)=Lib.splitN l [32] n:=by rw[hd,hsz];rfl
 have hlen:(Lib.splitB ⟨#[32]⟩ 0 (min n ((⟨l.toArray⟩:ByteArray).size+1)-1) ⟨l.toArray⟩).length=(Lib.splitN l [32] n).length:=by rw[←hd2,List.length_map]
 refine⟨_,by rw[hlen],(aD _ _).alloc (Nat.le_refl _) _,by simp,fun j x hx=>?_⟩;rw[←hd2,List.getElem?_map]at hx;cases hq:(Lib.splitB ⟨#[32]⟩ 0 (min n ((⟨l.toArray⟩:ByteArray).size+1)-1) ⟨l.toArray⟩)[j]? with
 |none=>rw[hq]at hx;cases hx
 |some b=>
  rw[hq]at hx;cases hx;rw[World.cell?_alloc_at _ _ _ _ rfl];unfold Lib.cellsOf;have hj:=(List.getElem?_eq_some_iff.1 hq).1
  rw[List.getElem?_toArray,List.getElem?_append_left (by rw[List.length_map];exact hj),List.getElem?_map,hq];rfl
def KH (k:Int):Value:=.func (.func (if k=1 then 66 else 67)) #[.int .i64 k] #[]
open Classical in
noncomputable def nH (v:Value):Option (DataW Unit×List MemPlace):=if v= .nilFunc then some (.lit (.int .i64 0),[])else if h:∃k:Int,(1≤k∧k≤8)∧v=KH k then some (.lit (.int .i64 h.choose),[])else none
theorem LN {k k':Int} (h:KH k=KH k'):k=k':=by unfold KH at h;injection h with _ h2 _;simpa using h2
theorem lH {k:Int} (hk:1≤k∧k≤8):nH (KH k)=some (.lit (.int .i64 k),[]):=by
 have h:∃k':Int,(1≤k'∧k'≤8)∧KH k=KH k':=⟨k,hk,rfl⟩
 unfold nH;rw[if_neg (by unfold KH;intro e;cases e),dif_pos h,←LN h.choose_spec.2]
theorem vF:nH .nilFunc=some (.lit (.int .i64 0),[]):=by unfold nH;rw[if_pos rfl]
theorem BH {v:Value} {k:Int} {ps:List MemPlace} (h:nH v=some (.lit (.int .i64 k),ps)):(k=0∧v= .nilFunc)∨((1≤k∧k≤8)∧v=KH k):=by
 unfold nH at h;split at h
 ·rename_i e;simp only[Option.some.injEq,Prod.mk.injEq,DataW.lit.injEq,Lit.int.injEq,true_and]at h;exact .inl ⟨h.1.symm,e⟩
 ·split at h
  ·rename_i q;simp only[Option.some.injEq,Prod.mk.injEq,DataW.lit.injEq,Lit.int.injEq,true_and]at h;have z:=q.choose_spec
   rw[h.1]at z;exact .inr z
  ·cases h
def mE (w:List UInt8):Lit:=.string w
def IZ (D:DataW Unit) (k:Int):DataW Unit:=D.put (mE (fN k)) (.lit (.int .i64 k))
def rdD:DataW Unit:=IZ (IZ (IZ (IZ (IZ (IZ (IZ (IZ (.map []) 1) 2) 3) 4) 5) 6) 7) 8
theorem kM {D:DataW Unit} (h:IsMap D) (k:Int):IsMap (IZ D k):=by obtain⟨es,rfl⟩:=h;exact⟨_,rfl⟩
theorem eX {D:DataW Unit} (h:IsMap D) (k:Int) (w:List UInt8) (z:DataW Unit):(IZ D k).atKey (mE w) z=(if w=fN k then .lit (.int .i64 k)else D.atKey (mE w) z)∧Maps.has (IZ D k) (mE w)=(if w=fN k then true else Maps.has D (mE w)):=by
 by_cases e:w=fN k
 ·subst e;rw[if_pos rfl,if_pos rfl];exact⟨atKey_put_same h (by trivial) _ _,has_put_same h (by trivial) _⟩
 ·rw[if_neg e,if_neg e];have hne:mE w≠mE (fN k):=fun q=>e (by cases q;rfl)
  exact⟨atKey_put_other hne _ _,has_put_other hne _⟩
theorem PY (w:List UInt8):rdD.atKey (mE w) (.lit (.int .i64 0))= .lit (.int .i64 (kn w))∧Maps.has rdD (mE w)=decide (kn w≠0):=by
 have m0:IsMap (.map []:DataW Unit):=⟨_,rfl⟩
 have m1:=kM m0 1;have m2:=kM m1 2
 have m3:=kM m2 3;have m4:=kM m3 4
 have m5:=kM m4 5;have m6:=kM m5 6
 have m7:=kM m6 7;unfold rdD;rw[(eX m7 8 w _).1,(eX m6 7 w _).1,(eX m5 6 w _).1,(eX m4 5 w _).1,(eX m3 4 w _).1,(eX m2 3 w _).1,(eX m1 2 w _).1,(eX m0 1 w _).1];rw[(eX m7 8 w .nil).2,(eX m6 7 w .nil).2,(eX m5 6 w .nil).2,(eX m4 5 w .nil).2,(eX m3 4 w .nil).2,(eX m2 3 w .nil).2,(eX m1 2 w .nil).2,(eX m0 1 w .nil).2];by_cases hk:kn w=0
 ·have hn:∀k:Int,1≤k∧k≤8→w≠fN k:=fun k hk1 e=>by rw[e,rH hk1]at hk;omega
  rw[hk];simp only[if_neg (hn 1 (by omega)),if_neg (hn 2 (by omega)),if_neg (hn 3 (by omega)),if_neg (hn 4 (by omega)),if_neg (hn 5 (by omega)),if_neg (hn 6 (by omega)),if_neg (hn 7 (by omega)),if_neg (hn 8 (by omega))];exact⟨rfl,rfl⟩
 ·have hw:=ID hk;have hb:=GI w
  generalize kn w=k at hk hw hb;subst hw;rcases(show k=1∨k=2∨k=3∨k=4∨k=5∨k=6∨k=7∨k=8 by omega)with rfl|rfl|rfl|rfl|rfl|rfl|rfl|rfl<;>refine⟨?_,?_⟩<;>(repeat(first|rfl|rw[if_pos rfl]|rw[if_neg (by decide)]))
theorem bK {H:Type} {P:Program} (w:World) {ops:Array Oper} {rest:List Oper} {o:Oper} {a:Act} {Q:Exit→Act→World→Prop} (hg:o.guard=none) (m x v:Operand) (t:TypeId) (hop:o.op=Op.insert t m x v) (k e:TypeId) (K:Keyed P k) (ht:P.underlying t=some (.map k e)) (R:Value→Option (DataW H×List MemPlace)) (b n:Nat) (D:DataW H) (hm:a.eval m= .map (some b)) (hown:w.ownsMap P k R b n D) (hn:n<maxLen) (key val:Value) (kl:Lit) (hx:a.eval x=key) (hv:a.eval v=val) (hkey:keyOf P k key=some kl) (d:DataW H) (ps:List MemPlace) (hval:R val=some (d,ps)) (hK:∀w',w'.ownsMap P k R b (n+1) (D.put kl d)→w.grownBy w' (some b)→wpList P ops Q rest (a.put o.dst undef) w'):wpList P ops Q (o::rest) a w:=by refine wpList_plain hg fun K' hK'=>?_;obtain⟨w',hrun,r1,r2⟩:=hown.update K ht hn hkey hval;unfold Oper.wp;simp[execOp,hop,hm,hx,hv,hrun,Result.andThen];exact hK' _ _ (hK w' r1 r2)
theorem vJ (w:List UInt8) (hw:w.length≤1048576):keyOf Tryz.prog 9 (.string ⟨w.toArray⟩)=some (mE w):=Go.WideMaps.keyOf_string_mk Tryz.underlying9 (s:=⟨w.toArray⟩) (by show w.toArray.size≤maxLen;unfold maxLen;simp;omega)
theorem xN (w:World):Calls Tryz.prog 37 #[] w fun e w'=>∃b,e= .returned (.map (some b))∧w'.ownsMap Tryz.prog 9 nH b 8 rdD∧Below w.heap.size w w':=by
 have m0:=World.ownsMap_made w Tryz.prog 9 nH;have HB0:=aA (Below.alloc (aD w.heap.size w) (Nat.le_refl _) (.map #[] 0))
 have HS0:=HB0.out.size;have hmm:=@run_makeMap Tryz.prog
 have ky1:keyOf Tryz.prog 9 (.string ⟨#[115,101,116]⟩)=some (mE (fN 1)):=vJ (fN 1) (by decide);have fv1:nH (.func (.func 66) #[.int .i64 1] #[])=some (.lit (.int .i64 1),[]):=lH (k:=1) (by omega)
 have ky2:keyOf Tryz.prog 9 (.string ⟨#[97,100,100]⟩)=some (mE (fN 2)):=vJ (fN 2) (by decide);have fv2:nH (.func (.func 67) #[.int .i64 2] #[])=some (.lit (.int .i64 2),[]):=lH (k:=2) (by omega)
 have ky3:keyOf Tryz.prog 9 (.string ⟨#[109,117,108]⟩)=some (mE (fN 3)):=vJ (fN 3) (by decide);have fv3:nH (.func (.func 67) #[.int .i64 3] #[])=some (.lit (.int .i64 3),[]):=lH (k:=3) (by omega)
 have ky4:keyOf Tryz.prog 9 (.string ⟨#[97,112,97,114,116]⟩)=some (mE (fN 4)):=vJ (fN 4) (by decide);have fv4:nH (.func (.func 67) #[.int .i64 4] #[])=some (.lit (.int .i64 4),[]):=lH (k:=4) (by omega)
 have ky5:keyOf Tryz.prog 9 (.string ⟨#[100,111]⟩)=some (mE (fN 5)):=vJ (fN 5) (by decide);have fv5:nH (.func (.func 67) #[.int .i64 5] #[])=some (.lit (.int .i64 5),[]):=lH (k:=5) (by omega)
 have ky6:keyOf Tryz.prog 9 (.string ⟨#[114,111,117,110,100]⟩)=some (mE (fN 6)):=vJ (fN 6) (by decide);have fv6:nH (.func (.func 67) #[.int .i64 6] #[])=some (.lit (.int .i64 6),[]):=lH (k:=6) (by omega)
 have ky7:keyOf Tryz.prog 9 (.string ⟨#[98,97,99,107]⟩)=some (mE (fN 7)):=vJ (fN 7) (by decide);have fv7:nH (.func (.func 67) #[.int .i64 7] #[])=some (.lit (.int .i64 7),[]):=lH (k:=7) (by omega)
 have ky8:keyOf Tryz.prog 9 (.string ⟨#[115,104,111,119]⟩)=some (mE (fN 8)):=vJ (fN 8) (by decide);have fv8:nH (.func (.func 67) #[.int .i64 8] #[])=some (.lit (.int .i64 8),[]):=lH (k:=8) (by omega)
 go_enter Tryz.func37,Tryz.ntmps37
 go_wp2_with (first
  |(refine bK _ rfl _ _ _ 57 rfl 9 55 (string_keyed Tryz.underlying9) Tryz.underlying57 nH w.heap.size 7 _ rfl m7 (by decide) _ _ (mE (fN 8)) rfl rfl ky8 (.lit (.int .i64 8)) [] fv8 ?_;intro w8 m8 g8;have HB8:=aA (HB7.out.grown g8 HB7.out.size (fun q e=>by cases e;exact Nat.le_refl _));clear g8)
  |(refine bK _ rfl _ _ _ 57 rfl 9 55 (string_keyed Tryz.underlying9) Tryz.underlying57 nH w.heap.size 6 _ rfl m6 (by decide) _ _ (mE (fN 7)) rfl rfl ky7 (.lit (.int .i64 7)) [] fv7 ?_;intro w7 m7 g7;have HB7:=aA (HB6.out.grown g7 HB6.out.size (fun q e=>by cases e;exact Nat.le_refl _));clear g7)
  |(refine bK _ rfl _ _ _ 57 rfl 9 55 (string_keyed Tryz.underlying9) Tryz.underlying57 nH w.heap.size 5 _ rfl m5 (by decide) _ _ (mE (fN 6)) rfl rfl ky6 (.lit (.int .i64 6)) [] fv6 ?_;intro w6 m6 g6;have HB6:=aA (HB5.out.grown g6 HB5.out.size (fun q e=>by cases e;exact Nat.le_refl _));clear g6)
  |(refine bK _ rfl _ _ _ 57 rfl 9 55 (string_keyed Tryz.underlying9) Tryz.underlying57 nH w.heap.size 4 _ rfl m4 (by decide) _ _ (mE (fN 5)) rfl rfl ky5 (.lit (.int .i64 5)) [] fv5 ?_;intro w5 m5 g5;have HB5:=aA (HB4.out.grown g5 HB4.out.size (fun q e=>by cases e;exact Nat.le_refl _));clear g5)
  |(refine bK _ rfl _ _ _ 57 rfl 9 55 (string_keyed Tryz.underlying9) Tryz.underlying57 nH w.heap.size 3 _ rfl m3 (by decide) _ _ (mE (fN 4)) rfl rfl ky4 (.lit (.int .i64 4)) [] fv4 ?_;intro w4 m4 g4;have HB4:=aA (HB3.out.grown g4 HB3.out.size (fun q e=>by cases e;exact Nat.le_refl _));clear g4)
  |(refine bK _ rfl _ _ _ 57 rfl 9 55 (string_keyed Tryz.underlying9) Tryz.underlying57 nH w.heap.size 2 _ rfl m2 (by decide) _ _ (mE (fN 3)) rfl rfl ky3 (.lit (.int .i64 3)) [] fv3 ?_;intro w3 m3 g3;have HB3:=aA (HB2.out.grown g3 HB2.out.size (fun q e=>by cases e;exact Nat.le_refl _));clear g3)
  |(refine bK _ rfl _ _ _ 57 rfl 9 55 (string_keyed Tryz.underlying9) Tryz.underlying57 nH w.heap.size 1 _ rfl m1 (by decide) _ _ (mE (fN 2)) rfl rfl ky2 (.lit (.int .i64 2)) [] fv2 ?_;intro w2 m2 g2;have HB2:=aA (HB1.out.grown g2 HB1.out.size (fun q e=>by cases e;exact Nat.le_refl _));clear g2)
  |(refine bK _ rfl _ _ _ 57 rfl 9 55 (string_keyed Tryz.underlying9) Tryz.underlying57 nH w.heap.size 0 _ rfl m0 (by decide) _ _ (mE (fN 1)) rfl rfl ky1 (.lit (.int .i64 1)) [] fv1 ?_;intro w1 m1 g1;have HB1:=aA (HB0.out.grown g1 HB0.out.size (fun q e=>by cases e;exact Nat.le_refl _));clear g1))
 go_ret;refine⟨_,rfl,m8,?_⟩;exact HB8.out
end Go.Proofs.YtkcmamepoplcdaaGreatDoor
namespace Go.Proofs.YtkcmamepoplcdaaGreatDoor
open Go.RowKit
set_option linter.unusedVariables false
set_option linter.unusedSimpArgs false
theorem IB {x y d e:Int} {p:List UInt8} (h:eN ⟨x,y,d,e⟩=p) (w:World):Calls Tryz.prog 93 #[.agg #[.int .i64 x,.int .i64 y,.int .i64 d,.int .i64 e]] w fun r w'=>r= .returned (.string ⟨p.toArray⟩)∧Below w.heap.size w w':=by rw[←h];exact yH x y d e w
theorem BM {n:Nat} {p:List UInt8} (h:Lib.decDigits n=p) (hn:n≤9223372036854775807) (w:World) (hT:Tb w):Calls Tryz.prog 44 #[.int .i64 (n:Int)] w fun r w'=>r= .returned (.string ⟨p.toArray⟩)∧Below w.heap.size w w':=by rw[←h];exact BL n hn w hT
theorem gB (C:Nat) (hC:C≤9223372036854775807) (x y d e:Int) (hm:M.ok ⟨x,y,d,e⟩=true) (w:World) (hT:Tb w):Calls Tryz.prog 62 #[.agg #[.int .i64 (C:Int),.int .i64 x,.int .i64 y,.int .i64 d,.int .i64 e]] w fun r w'=>r= .returned (.string ⟨(fE ⟨(C:Int),⟨x,y,d,e⟩⟩).toArray⟩)∧Below w.heap.size w w':=by
 obtain⟨MT,hMT⟩:∃MT,eN ⟨x,y,d,e⟩=MT:=⟨_,rfl⟩
 have hml:MT.length≤12:=by rw[←hMT];exact nS hm
 obtain⟨DT,hDT⟩:∃DT,Lib.decDigits C=DT:=⟨_,rfl⟩
 have hdl:DT.length≤20:=by rw[←hDT];exact oM hC
 have htrm:fE ⟨(C:Int),⟨x,y,d,e⟩⟩=if x=0∧y=0∧d=0∧e=0 then DT else if(C:Int)=1 then MT else DT++MT:=by show(if x=0∧y=0∧d=0∧e=0 then Lib.decDigits C else if(C:Int)=1 then eN ⟨x,y,d,e⟩else Lib.decDigits C++eN ⟨x,y,d,e⟩)=_;rw[hMT,hDT]
 rw[htrm];have b0:=aF w (.cells #[.int .i64 (C:Int),.int .i64 x,.int .i64 y,.int .i64 d,.int .i64 e] 79)
 have HT0:=aA (hT.below b0);have HB0:=aA b0
 clear htrm hT b0;by_cases hz:x=0∧y=0∧d=0∧e=0
 ·rw[if_pos hz];obtain⟨rfl,rfl,rfl,rfl⟩:=hz;have HC:=aA (BM hDT hC _ HT0.out)
  clear hMT hDT;go_enter Tryz.func62,Tryz.ntmps62;go_wp2_with fail;refine HC.out.mono ?_;rintro r w1 ⟨rfl,hb⟩;have HB1:=aA (aC HB0.out hb)
  clear hb;go_wp2;go_ret;exact⟨rfl,HB1.out⟩
 ·rw[if_neg hz];have key:¬x=0∨(x=0∧¬y=0)∨(x=0∧y=0∧¬d=0)∨(x=0∧y=0∧d=0∧¬e=0):=by omega
  clear hz;by_cases h1:(C:Int)=1
  ·rw[if_pos h1];have HC:=aA (IB hMT (w.alloc (.cells #[.int .i64 1,.int .i64 x,.int .i64 y,.int .i64 d,.int .i64 e] 79)))
   rw[h1]at HB0⊢;clear hMT hDT h1 HT0;rcases key with k1|⟨rfl,k1⟩|⟨rfl,rfl,k1⟩|⟨rfl,rfl,rfl,k1⟩
   all_goals(
    go_enter Tryz.func62,Tryz.ntmps62;go_wp2_with fail;refine HC.out.mono ?_;rintro r w1 ⟨rfl,hb⟩;have HB1:=aA (aC HB0.out hb)
    clear hb;go_wp2;go_ret
    exact⟨rfl,HB1.out⟩)
  ·rw[if_neg h1];have h1b:((C:Int)==1)=false:=beq_eq_false_iff_ne.2 h1
   have hsz:¬(DT.length+MT.length>9223372036854775807):=by omega
   have hsz2:¬(9223372036854775807<DT.length+MT.length):=by omega
   obtain⟨W,hW⟩:∃W,w.alloc (.cells #[.int .i64 (C:Int),.int .i64 x,.int .i64 y,.int .i64 d,.int .i64 e] 79)=W:=⟨_,rfl⟩
   have q0:w.heap.size<W.heap.size:=by rw[←hW];simp
   have ne:=dQ.there W;have gg:∀j:Nat,W.cell? ⟨w.heap.size,j,none⟩=#[Value.int .i64 (C:Int),.int .i64 x,.int .i64 y,.int .i64 d,.int .i64 e][j]? :=fun j=>by rw[←hW,World.cell?_alloc_at _ _ _ _ rfl]
   have s0:∀u:dQ W,u.1.cell? ⟨w.heap.size,0,none⟩=some (.int .i64 (C:Int)):=fun u=>(u.cell q0).trans (gg 0);have s1:∀u:dQ W,u.1.cell? ⟨w.heap.size,1,none⟩=some (.int .i64 x):=fun u=>(u.cell q0).trans (gg 1)
   have s2:∀u:dQ W,u.1.cell? ⟨w.heap.size,2,none⟩=some (.int .i64 y):=fun u=>(u.cell q0).trans (gg 2);have s3:∀u:dQ W,u.1.cell? ⟨w.heap.size,3,none⟩=some (.int .i64 d):=fun u=>(u.cell q0).trans (gg 3)
   have s4:∀u:dQ W,u.1.cell? ⟨w.heap.size,4,none⟩=some (.int .i64 e):=fun u=>(u.cell q0).trans (gg 4);rw[hW]at HT0 HB0;have HT:∀u:dQ W,Tb u.1:=fun u=>HT0.out.below u.2
   have HTT:=aA HT;have HWW:=aA hW
   clear HT gg hW;rcases key with k1|⟨rfl,k1⟩|⟨rfl,rfl,k1⟩|⟨rfl,rfl,rfl,k1⟩
   all_goals(
    go_enter Tryz.func62,Tryz.ntmps62;go_wp2_with fail;simp only[HWW.out];clear HWW;refine aR (by kernel_rfl) (by kernel_rfl) ?_;repeat(go_big_quiet_step (first|(go_at_call 44;exact bQ (BM (by with_reducible assumption) hC _ (HTT.out _)))|(go_at_call 93;exact bQ (IB (by with_reducible assumption) _))|fail))
    refine wpQuiet_nil ?_;rintro _ ⟨v,rfl⟩;have HV:=aA (aC HB0.out v.2)
    clear s0 s1 s2 s3 s4 ne hMT hDT;go_wp2;go_ret
    exact⟨by first|rfl|(congr 2;apply ByteArray.ext;simp[ByteArray.data_append];done),HV.out⟩)
end Go.Proofs.YtkcmamepoplcdaaGreatDoor
