/-
  The model cuts texts at each '+' and reads operators (l3Cut, PolRead).
-/
import Derived.Test.YtkcmamepoplcdaaGreatDoorTap
import Derived.Test.YtkcmamepoplcdaaGreatDoorTas
import Derived.Test.YtkcmamepoplcdaaGreatDoorTag
set_option maxHeartbeats 8000000
set_option maxRecDepth 100000
namespace Go.Proofs.YtkcmamepoplcdaaGreatDoor
open Go.RowKit
set_option linter.unusedVariables false
set_option linter.unusedSimpArgs false
def kM (s:List UInt8):List (List UInt8):=if s.length≤400 then aU s else[]
theorem lI:∀s:List UInt8,(aU s).length≤s.length+1
 |[]=>by simp[aU]
 |c::r=>by
  have:=lI r;unfold aU;split
  ·simp;omega
  ·cases e:aU r with
   |nil=>exact absurd e (eE r)
   |cons h t=>rw[e]at this;simp[eJ]at this⊢;omega
theorem dG:∀(s:List UInt8) (w:List UInt8),w∈aU s→w.length≤s.length
 |[],w,h=>by simp[aU]at h;subst h;simp
 |c::r,w,h=>by
  unfold aU at h;split at h
  ·rcases List.mem_cons.1 h with e|e
   ·subst e;simp
   ·have:=dG r w e;simp;omega
  ·cases q:aU r with
   |nil=>exact absurd q (eE r)
   |cons a t=>
    rw[q]at h;rcases List.mem_cons.1 h with e|e
    ·subst e;have:=dG r a (by rw[q];simp)
     simp;omega
    ·have:=dG r w (by rw[q];simp[e]);simp;omega
theorem qC (c:UInt8):UInt8.ofNat (((c.toNat:Int))%256).toNat=c:=by
 have h:c.toNat<256:=c.toNat_lt;have e:((c.toNat:Int)%256).toNat=c.toNat:=by omega
 rw[e];simp
theorem kV (w:World) (c:UInt8) (t:TypeId):(convert 35 9 (.slice (some ⟨w.heap.size,0,none⟩) 1 1)).run Tryz.prog (w.alloc (Obj.cells #[.int .u8 (c.toNat:Int)] t))= .ok (.string ⟨#[c]⟩) (w.alloc (Obj.cells #[.int .u8 (c.toNat:Int)] t)):=by
 have h:c.toNat<256:=c.toNat_lt;have:=nJ w (c.toNat:Int) t
 rw[qC,show((c.toNat:Int))%256=(c.toNat:Int) by omega]at this;exact this
def zU (w:World) (o:List (List UInt8)) (v:Value) (wr:World):Prop:=rB w.heap.size v o wr∧Below w.heap.size w wr
theorem wQ (s:List UInt8) (hs:s.length≤1048576) (w:World):Calls Tryz.prog 63 #[.string ⟨s.toArray⟩] w fun r w'=>∃g cp,r= .returned (.slice (some ⟨g,0,none⟩) (kM s).length cp)∧rB w.heap.size (.slice (some ⟨g,0,none⟩) (kM s).length cp) (kM s) w'∧Below w.heap.size w w':=by
 have hsI:(s.length:Int)≤1048576:=by omega
 obtain⟨i0,hi0,hz0,hz1,hz2⟩:=info_parts oC;have HO0:=aA (nN w w.heap.size (aE _))
 have HB0:=aA (aG w (.cells #[] 9));by_cases hl:s.length≤400
 ·have hlI:¬(400:Int)<(s.length:Int):=by omega
  have hlJ:(s.length:Int)≤400:=by omega
  have HE:Hid (kM s=aU s):=by unfold kM;rw[if_pos hl];exact aA rfl
  go_enter Tryz.func63,Tryz.ntmps63;go_wp2;go_loopw [5,3,4] (fun v5 v3 v4 wr=>∃(k g cp n:Nat) (o:List (List UInt8)) (wd:List UInt8),k≤s.length∧n≤k∧v5= .int .i64 (k:Int)∧v3= .slice (some ⟨g,0,none⟩) n cp∧v4= .string ⟨wd.toArray⟩∧wd.length≤k∧Hid (n=o.length∧aU (s.take k)=o++[wd])∧Hid (zU w o (.slice (some ⟨g,0,none⟩) n cp) wr)) (fun v5 _ _ _=>s.length-(intOf v5).toNat);case atStart=>exact⟨0,_,_,0,[],[],kG _,aE _,rfl,rfl,rfl,aE _,aA ⟨rfl,rfl⟩,aA ⟨HO0.out,HB0.out⟩⟩
  case round=>
   obtain⟨k,g,cp,n,o,wd,hk,hnk,rfl,rfl,rfl,hwd,HC,HI⟩:=hrel;have hmax:n+1≤maxLen:=by unfold maxLen;omega
   have hs0:=HI.out.2.size;by_cases hkl:k<s.length
   ·have hkI:(k:Int)<(s.length:Int):=by omega
    obtain⟨c,hc⟩:∃c,s[k]? =some c:=⟨_,List.getElem?_eq_getElem hkl⟩
    have hix:=dB hc;have htk:s.take (k+1)=s.take k++[c]:=by rw[List.take_add_one,hc];rfl
    by_cases hp:c=43
    ·subst hp;have HC2:Hid (aU (s.take (k+1))=(o++[wd])++[[]]):=by rw[htk,mQ,HC.out.2];exact aA rfl
     have HO4:=aA (HI.out.1.alloc (.cells #[.string ⟨wd.toArray⟩] 9));have HB4:=aA (HI.out.2.alloc hs0 (.cells #[.string ⟨wd.toArray⟩] 9))
     have HN:=aA (heap_alloc_new wr (.cells #[.string ⟨wd.toArray⟩] 9));clear hc htk;have hix':∀u:World,(Instr.index 9 (.string ⟨s.toArray⟩) (.int .i64 (k:Int))).run Tryz.prog u= .ok (.int .u8 43) u:=fun u=>hix u
     clear hix;go_wp2_with (at_builtin;refine wpList_append_lies _ rfl (.tmp 21) (.tmp 23) 30 rfl w.heap.size 9 i0 _ 1 16 Tryz.underlying30 hi0 hz0 hz1 hz2 rfl (by omega) _ n (qW o) rfl (HC.out.1▸HO4.out) ⟨wr.heap.size,0,none⟩ 1 1 [.string ⟨wd.toArray⟩] rfl rfl (World.news_of_block HN.out) (iD _) (by omega) hmax (by omega) (by simp;omega) _ rfl ?_;intro g1 cap1 w7 hown2 hgrow2 hat2 hlt2;have HO7:=aA hown2;have HB7:=aA (HB4.out.grown hgrow2 (by simp;omega) (fun k' e'=>(HO4.out.lt k' e').1));clear hown2 hgrow2 hat2 hlt2);go_roundw
     case rel=>exact⟨k+1,g1,cap1,n+1,o++[wd],[],by omega,by omega,by go_num,rfl,rfl,by simp,aA ⟨by rw[HC.out.1];simp,HC2.out⟩,aA ⟨by
      have:=HO7.out;show World.ownsRow _ _ _ _ _ _ _
      rw[fW,List.length_append,←HC.out.1];exact this,HB7.out⟩⟩
     case measure=>simp[intOf];omega
    ·have HC2:Hid (aU (s.take (k+1))=o++[wd++[c]]):=by rw[htk,mO hp,HC.out.2,iG];exact aA rfl
     have hcv:=kV wr c 5;have HB4:=aA (HI.out.2.alloc hs0 (.cells #[.int .u8 (c.toNat:Int)] 5))
     have HO4:=aA (HI.out.1.alloc (.cells #[.int .u8 (c.toNat:Int)] 5))
     have hp43:(c.toNat:Int)≠43:=fun e=>hp (by
      apply UInt8.toNat_inj.1;have:c.toNat=43:=by omega
      rw[this];rfl)
     have hpb:((c.toNat:Int)==43)=false:=beq_eq_false_iff_ne.2 hp43;have hsz:¬(9223372036854775807<wd.length+1):=by omega
     clear hc htk hp hp43;go_wp2;go_roundw;case rel=>exact⟨k+1,g,cp,n,o,wd++[c],by omega,by omega,by go_num,rfl,by first|rfl|exact congrArg Value.string (fQ wd c)|(simp;exact fQ wd c),by simp;omega,aA ⟨HC.out.1,HC2.out⟩,aA ⟨HO4.out,HB4.out⟩⟩
     case measure=>simp[intOf];omega
   ·have hke:k=s.length:=by omega
    have hnl:¬(k:Int)<(s.length:Int):=by omega
    have HCE:Hid (kM s=o++[wd]):=by
     rw[HE.out];have:=HC.out.2
     rw[hke,List.take_length]at this;exact aA this
    clear hke;have HO4:=aA (HI.out.1.alloc (.cells #[.string ⟨wd.toArray⟩] 9))
    have HB4:=aA (HI.out.2.alloc hs0 (.cells #[.string ⟨wd.toArray⟩] 9));have HN:=aA (heap_alloc_new wr (.cells #[.string ⟨wd.toArray⟩] 9))
    go_wp2_with (at_builtin;refine wpList_append_lies _ rfl (.tmp 32) (.tmp 34) 30 rfl w.heap.size 9 i0 _ 1 16 Tryz.underlying30 hi0 hz0 hz1 hz2 rfl (by omega) _ n (qW o) rfl (HC.out.1▸HO4.out) ⟨wr.heap.size,0,none⟩ 1 1 [.string ⟨wd.toArray⟩] rfl rfl (World.news_of_block HN.out) (iD _) (by omega) hmax (by omega) (by simp;omega) _ rfl ?_;intro g1 cap1 w7 hown2 hgrow2 hat2 hlt2;have HO7:=aA hown2;have HB7:=aA (HB4.out.grown hgrow2 (by simp;omega) (fun k' e'=>(HO4.out.lt k' e').1));clear hown2 hgrow2 hat2 hlt2);go_ret;have hn1:n+1=(kM s).length:=by rw[HCE.out];simp[HC.out.1]
    refine⟨g1,cap1,by rw[hn1];rfl,?_,HB7.out⟩;have:=HO7.out
    show World.ownsRow _ _ _ _ _ _ _;rw[←hn1,HCE.out,fW];exact this
 ·have hlI:(400:Int)<(s.length:Int):=by omega
  have HE:Hid (kM s=[]):=by unfold kM;rw[if_neg hl];exact aA rfl
  clear hl;go_enter Tryz.func63,Tryz.ntmps63;go_wp2;go_ret;exact⟨_,0,by rw[HE.out];rfl,by rw[HE.out];exact HO0.out,HB0.out⟩
def kF (s:List UInt8):List (List UInt8):=if s.length≤420 then bX s else[]
theorem xM (s:List UInt8):(kF s).length≤421:=by
 unfold kF;split
 ·have:=oX s;omega
 ·simp
theorem xN (s:List UInt8):kF s=[]∨kF s=bX s:=by
 unfold kF;split
 ·exact .inr rfl
 ·exact .inl rfl
theorem vS {s:List UInt8} {i:Nat} {l:List UInt8} (h:(kF s)[i]? =some l):l.length≤420:=by
 unfold kF at h;split at h
 ·have:=eA s l (List.mem_of_getElem? h);omega
 ·simp at h
def zW (w:World) (o:List (List UInt8)) (v:Value) (wr:World):Prop:=rB w.heap.size v o wr∧Below w.heap.size w wr
theorem qJ (s:List UInt8) (hs:s.length≤1048576) (w:World):Calls Tryz.prog 31 #[.string ⟨s.toArray⟩] w fun r w'=>∃g cp,r= .returned (.slice (some ⟨g,0,none⟩) (kF s).length cp)∧rB w.heap.size (.slice (some ⟨g,0,none⟩) (kF s).length cp) (kF s) w'∧Below w.heap.size w w':=by
 have hsI:(s.length:Int)≤1048576:=by omega
 obtain⟨i0,hi0,hz0,hz1,hz2⟩:=info_parts oC;have HO0:=aA (nN w w.heap.size (aE _))
 have HB0:=aA (aG w (.cells #[] 9));by_cases hl:s.length≤420
 ·have hlI:¬(420:Int)<(s.length:Int):=by omega
  have hlJ:(s.length:Int)≤420:=by omega
  have HE:Hid (kF s=bX s):=by unfold kF;rw[if_pos hl];exact aA rfl
  go_enter Tryz.func31,Tryz.ntmps31;go_wp2;go_loopw [5,3,4] (fun v5 v3 v4 wr=>∃(k g cp n:Nat) (o:List (List UInt8)) (wd:List UInt8),k≤s.length∧n≤k∧v5= .int .i64 (k:Int)∧v3= .slice (some ⟨g,0,none⟩) n cp∧v4= .string ⟨wd.toArray⟩∧wd.length≤k∧Hid (n=o.length∧bX (s.take k)=o++[wd])∧Hid (zW w o (.slice (some ⟨g,0,none⟩) n cp) wr)) (fun v5 _ _ _=>s.length-(intOf v5).toNat);case atStart=>exact⟨0,_,_,0,[],[],kG _,aE _,rfl,rfl,rfl,aE _,aA ⟨rfl,rfl⟩,aA ⟨HO0.out,HB0.out⟩⟩
  case round=>
   obtain⟨k,g,cp,n,o,wd,hk,hnk,rfl,rfl,rfl,hwd,HC,HI⟩:=hrel;have hmax:n+1≤maxLen:=by unfold maxLen;omega
   have hs0:=HI.out.2.size;by_cases hkl:k<s.length
   ·have hkI:(k:Int)<(s.length:Int):=by omega
    obtain⟨c,hc⟩:∃c,s[k]? =some c:=⟨_,List.getElem?_eq_getElem hkl⟩
    have hix:=dB hc;have htk:s.take (k+1)=s.take k++[c]:=by rw[List.take_add_one,hc];rfl
    by_cases hp:c=32
    ·subst hp;have HC2:Hid (bX (s.take (k+1))=(o++[wd])++[[]]):=by rw[htk,kN,HC.out.2];exact aA rfl
     have HO4:=aA (HI.out.1.alloc (.cells #[.string ⟨wd.toArray⟩] 9));have HB4:=aA (HI.out.2.alloc hs0 (.cells #[.string ⟨wd.toArray⟩] 9))
     have HN:=aA (heap_alloc_new wr (.cells #[.string ⟨wd.toArray⟩] 9));clear hc htk;have hix':∀u:World,(Instr.index 9 (.string ⟨s.toArray⟩) (.int .i64 (k:Int))).run Tryz.prog u= .ok (.int .u8 32) u:=fun u=>hix u
     clear hix;go_wp2_with (at_builtin;refine wpList_append_lies _ rfl (.tmp 21) (.tmp 23) 30 rfl w.heap.size 9 i0 _ 1 16 Tryz.underlying30 hi0 hz0 hz1 hz2 rfl (by omega) _ n (qW o) rfl (HC.out.1▸HO4.out) ⟨wr.heap.size,0,none⟩ 1 1 [.string ⟨wd.toArray⟩] rfl rfl (World.news_of_block HN.out) (iD _) (by omega) hmax (by omega) (by simp;omega) _ rfl ?_;intro g1 cap1 w7 hown2 hgrow2 hat2 hlt2;have HO7:=aA hown2;have HB7:=aA (HB4.out.grown hgrow2 (by simp;omega) (fun k' e'=>(HO4.out.lt k' e').1));clear hown2 hgrow2 hat2 hlt2);go_roundw
     case rel=>exact⟨k+1,g1,cap1,n+1,o++[wd],[],by omega,by omega,by go_num,rfl,rfl,by simp,aA ⟨by rw[HC.out.1];simp,HC2.out⟩,aA ⟨by
      have:=HO7.out;show World.ownsRow _ _ _ _ _ _ _
      rw[fW,List.length_append,←HC.out.1];exact this,HB7.out⟩⟩
     case measure=>simp[intOf];omega
    ·have HC2:Hid (bX (s.take (k+1))=o++[wd++[c]]):=by rw[htk,mM hp,HC.out.2,iG];exact aA rfl
     have hcv:=kV wr c 5;have HB4:=aA (HI.out.2.alloc hs0 (.cells #[.int .u8 (c.toNat:Int)] 5))
     have HO4:=aA (HI.out.1.alloc (.cells #[.int .u8 (c.toNat:Int)] 5))
     have hp32:(c.toNat:Int)≠32:=fun e=>hp (by
      apply UInt8.toNat_inj.1;have:c.toNat=32:=by omega
      rw[this];rfl)
     have hpb:((c.toNat:Int)==32)=false:=beq_eq_false_iff_ne.2 hp32;have hsz:¬(9223372036854775807<wd.length+1):=by omega
     clear hc htk hp hp32;go_wp2;go_roundw;case rel=>exact⟨k+1,g,cp,n,o,wd++[c],by omega,by omega,by go_num,rfl,by first|rfl|exact congrArg Value.string (fQ wd c)|(simp;exact fQ wd c),by simp;omega,aA ⟨HC.out.1,HC2.out⟩,aA ⟨HO4.out,HB4.out⟩⟩
     case measure=>simp[intOf];omega
   ·have hke:k=s.length:=by omega
    have hnl:¬(k:Int)<(s.length:Int):=by omega
    have HCE:Hid (kF s=o++[wd]):=by
     rw[HE.out];have:=HC.out.2
     rw[hke,List.take_length]at this;exact aA this
    clear hke;have HO4:=aA (HI.out.1.alloc (.cells #[.string ⟨wd.toArray⟩] 9))
    have HB4:=aA (HI.out.2.alloc hs0 (.cells #[.string ⟨wd.toArray⟩] 9));have HN:=aA (heap_alloc_new wr (.cells #[.string ⟨wd.toArray⟩] 9))
    go_wp2_with (at_builtin;refine wpList_append_lies _ rfl (.tmp 32) (.tmp 34) 30 rfl w.heap.size 9 i0 _ 1 16 Tryz.underlying30 hi0 hz0 hz1 hz2 rfl (by omega) _ n (qW o) rfl (HC.out.1▸HO4.out) ⟨wr.heap.size,0,none⟩ 1 1 [.string ⟨wd.toArray⟩] rfl rfl (World.news_of_block HN.out) (iD _) (by omega) hmax (by omega) (by simp;omega) _ rfl ?_;intro g1 cap1 w7 hown2 hgrow2 hat2 hlt2;have HO7:=aA hown2;have HB7:=aA (HB4.out.grown hgrow2 (by simp;omega) (fun k' e'=>(HO4.out.lt k' e').1));clear hown2 hgrow2 hat2 hlt2);go_ret;have hn1:n+1=(kF s).length:=by rw[HCE.out];simp[HC.out.1]
    refine⟨g1,cap1,by rw[hn1];rfl,?_,HB7.out⟩;have:=HO7.out
    show World.ownsRow _ _ _ _ _ _ _;rw[←hn1,HCE.out,fW];exact this
 ·have hlI:(420:Int)<(s.length:Int):=by omega
  have HE:Hid (kF s=[]):=by unfold kF;rw[if_neg hl];exact aA rfl
  clear hl;go_enter Tryz.func31,Tryz.ntmps31;go_wp2;go_ret;exact⟨_,0,by rw[HE.out];rfl,by rw[HE.out];exact HO0.out,HB0.out⟩
theorem xJ {w:List UInt8} (h:w.length≠1):eQ w= -1:=by
 match w,h with
 |[],_=>rfl
 |[c],h=>exact absurd rfl h
 |_::_::_,_=>rfl
theorem dX (s:List UInt8) (hs:s.length≤1048576) (w:World):Calls Tryz.prog 34 #[.string ⟨s.toArray⟩] w fun e w'=>e= .returned (.int .i64 (eQ s))∧w'=w:=by
 by_cases h1:s.length=1
 ·obtain⟨c,rfl⟩:=List.length_eq_one_iff.1 h1;have hix:∀u:World,(Instr.index 9 (.string ⟨#[c]⟩) (.int .i64 0)).run Tryz.prog u= .ok (.int .u8 (c.toNat:Int)) u:=fun u=>dB (l:=[c]) (k:=0) (c:=c) rfl u
  have hc:c.toNat<256:=c.toNat_lt;have hw:IntKind.i64.wrap (c.toNat:Int)=(c.toNat:Int):=by rw[IntKind.wrap_i64];omega
  clear h1 hs;by_cases hb:65≤(c.toNat:Int)∧(c.toNat:Int)≤70
  ·obtain⟨b1,b2⟩:=hb;have e:eQ [c]=(c.toNat:Int)-65:=if_pos ⟨b1,b2⟩
   have hw2:IntKind.i64.wrap ((c.toNat:Int)-65)=(c.toNat:Int)-65:=by rw[IntKind.wrap_i64];omega
   rw[e];clear e;go_enter Tryz.func34,Tryz.ntmps34;go_wp2_with (go_at_call 54;refine(aO _ _ _ _ (by omega) (by omega)).mono ?_;rintro e w' ⟨rfl,rfl⟩);go_ret;exact⟨rfl,rfl⟩
  ·have e:eQ [c]= -1:=if_neg hb;have hb':(c.toNat:Int)<65∨(65≤(c.toNat:Int)∧70<(c.toNat:Int)):=by omega
   rw[e];clear e hb;go_enter Tryz.func34,Tryz.ntmps34;go_wp2_with (go_at_call 54;refine(aK _ _ _ _ hb').mono ?_;rintro e w' ⟨rfl,rfl⟩);go_ret;exact⟨rfl,rfl⟩
 ·have h1b:((s.length:Int)!=1)=true:=by simp;omega
  rw[xJ h1];clear h1;go_enter Tryz.func34,Tryz.ntmps34;go_wp2;go_ret;exact⟨rfl,rfl⟩
theorem wJ {s:List UInt8} (h:s.length≤400):(kM s).map dC=wT s:=by unfold kM wT;rw[if_pos h]
theorem wI (s:List UInt8):(kM s).length≤401:=by
 unfold kM;split
 ·have:=lI s;omega
 ·simp
theorem uH {s:List UInt8} {i:Nat} {l:List UInt8} (h:(kM s)[i]? =some l):l.length≤400:=by
 unfold kM at h;split at h
 ·have:=dG s l (List.mem_of_getElem? h);omega
 ·simp at h
def zR (w1:World) (ts:List T) (v:Value) (wr:World):Prop:=wr.ownsRow w1.heap.size 79 5 v ts.length (aN ts)∧Below w1.heap.size w1 wr
theorem iW (w:World) (lo:Nat) (h:lo≤w.heap.size):iH lo (w.alloc (.cells #[] 79)) (some ⟨w.heap.size,0,none⟩) 0 []:=by obtain⟨a,cap,e,ho⟩:=aT (L:=[]) (eO w lo h) (by simp);cases e;exact ho
theorem nP (s:List UInt8) (hs:s.length≤1048576) (w:World):Calls Tryz.prog 35 #[.string ⟨s.toArray⟩] w fun r w'=>∃a cap,r= .returned (.tuple #[.slice a (cB s).1.length cap,.bool (cB s).2])∧Below w.heap.size w w'∧iH w.heap.size w' a cap (cB s).1:=by
 have hsI:(s.length:Int)≤1048576:=by omega
 obtain⟨i0,hi0,hz0,hz1,hz2⟩:=info_parts pF;by_cases h0:s=[48]
 ·subst h0;rw[iE];have HO:=aA (iW w w.heap.size (aE _))
  have HB:=aA (aG w (.cells #[] 79));go_enter Tryz.func35,Tryz.ntmps35;go_wp2
  go_ret2
  exact⟨_,_,rfl,HB.out,HO.out⟩
 ·have h0b:(s==[48])=false:=beq_eq_false_iff_ne.2 h0;have HC:=aA (wQ s hs w)
  have hbd:=wI s;have HM:Hid (∀(i:Nat) (l:List UInt8),(kM s)[i]? =some l→l.length≤400):=aA (fun i l h=>uH h)
  have HCW:Hid (s.length≤400→(kM s).map dC=wT s):=aA wJ;have HCZ:Hid (¬s.length≤400→(kM s)=[]):=aA (fun h=>by unfold kM;rw[if_neg h])
  obtain⟨W,hW⟩:∃W,kM s=W:=⟨_,rfl⟩
  rw[hW]at HC hbd HM HCW HCZ;obtain⟨N,hN⟩:∃N,W.length=N:=⟨_,rfl⟩
  rw[hN]at HC hbd;have HH0:=aA h0
  have HN:=aA hN;obtain⟨Rr,hRr⟩:∃R,cB s=R:=⟨_,rfl⟩
  have HRR:=aA hRr;rw[hRr];clear hW hN h0 hRr;go_enter Tryz.func35,Tryz.ntmps35;go_wp2_with fail;refine HC.out.mono ?_;rintro r w1 ⟨g,cp,rfl,how,hb1⟩;have HOW:=aA how
  have HB1:=aA hb1;have hs1:=hb1.size
  have HI0:Hid (zR w1 [] (.slice (some ⟨w1.heap.size,0,none⟩) 0 0) (w1.alloc (.cells #[] 79))):=⟨eO w1 _ (aE _),aG w1 _⟩
  clear how hb1 HC;go_wp2;go_loopw [6,5] (fun v6 v5 wr=>∃(k g5 cp5:Nat) (ts:List T),k≤N∧v6= .int .i64 (k:Int)∧v5= .slice (some ⟨g5,0,none⟩) k cp5∧Hid (ts.length=k∧ts=(W.take k).map dC)∧Hid (zR w1 ts (.slice (some ⟨g5,0,none⟩) k cp5) wr)) (fun v6 _ _=>N-(intOf v6).toNat);case atStart=>exact⟨0,_,_,[],kG _,rfl,rfl,aA ⟨rfl,rfl⟩,HI0⟩
  case round=>
   obtain⟨k,g5,cp5,ts,hk,rfl,rfl,HT,HI⟩:=hrel;have hs5:=HI.out.2.size
   by_cases hkl:k<N
   ·have hkI:(k:Int)<(N:Int):=by omega
    obtain⟨l,hl⟩:∃l,W[k]? =some l:=⟨_,List.getElem?_eq_getElem (by rw[HN.out];exact hkl)⟩
    have hll:=HM.out k l hl;have hcl:=cC (bD HOW.out HI.out.2) hl
    have htk:(W.take (k+1)).map dC=ts++[dC l]:=by rw[List.take_add_one,hl,HT.out.2];simp
    have HTK:=aA htk;obtain⟨t,ht⟩:∃t,dC l=t:=⟨_,rfl⟩
    have HCT:=aA (uY l (by omega) wr);rw[ht]at HCT HTK;clear ht htk hl;have hmax:k+1≤maxLen:=by unfold maxLen;omega
    go_wp2_with fail;refine HCT.out.mono ?_;rintro r w3 ⟨rfl,hb3⟩;have hO3:=bD HI.out.1 hb3
    have hB3:=aD HI.out.2 hb3;have hs3:w1.heap.size≤w3.heap.size:=hB3.size
    have HO4:=aA (hO3.alloc (.cells #[.int .i64 t.c,.int .i64 t.m.x,.int .i64 t.m.y,.int .i64 t.m.d,.int .i64 t.m.e] 79));have HB4:=aA (hB3.alloc hs3 (.cells #[.int .i64 t.c,.int .i64 t.m.x,.int .i64 t.m.y,.int .i64 t.m.d,.int .i64 t.m.e] 79))
    have HNW:=aA (heap_alloc_new w3 (.cells #[.int .i64 t.c,.int .i64 t.m.x,.int .i64 t.m.y,.int .i64 t.m.d,.int .i64 t.m.e] 79));clear hb3 hO3 hB3 HCT hcl;go_wp2_with (at_builtin;refine wpList_append_lies _ rfl (.tmp 19) (.tmp 25) 22 rfl w1.heap.size 79 i0 _ 5 40 Tryz.underlying22 hi0 hz0 hz1 hz2 rfl (by omega) _ k (aN ts) rfl (HT.out.1▸HO4.out) ⟨w3.heap.size,0,none⟩ 1 1 (aN [t]) rfl (by rw[aW];rfl) (by rw[bO];exact World.news_of_block HNW.out) (cA _) (by omega) hmax (by omega) (by simp;omega) _ rfl ?_;intro g1 cap1 w7 hown2 hgrow2 hat2 hlt2;have HO7:=aA hown2;have HB7:=aA (HB4.out.grown hgrow2 (by simp;omega) (fun k' e'=>(HO4.out.lt k' e').1));clear hown2 hgrow2 hat2 hlt2);go_roundw
    case rel=>exact⟨k+1,g1,cap1,ts++[t],by omega,by go_num,rfl,aA ⟨by simp[HT.out.1],HTK.out.symm⟩,aA ⟨by
     have:=HO7.out;show World.ownsRow _ _ _ _ _ _ _
     rw[bA,List.length_append,HT.out.1];exact this,HB7.out⟩⟩
    case measure=>simp[intOf];omega
   ·have hke:k=N:=by omega
    have hnl:¬(k:Int)<(N:Int):=by omega
    have HTE:Hid (ts=W.map dC):=by have:=HT.out.2;rw[hke,←HN.out,List.take_length]at this;exact aA this
    have HKL:Hid (ts.length=k):=aA HT.out.1;clear hke HT;have HBw:=aA (aD HB1.out HI.out.2)
    by_cases hk0:k=0
    ·have HZ:Hid (Rr=([],false)):=by
      rw[←HRR.out];refine aA (gW HH0.out (fun q=>?_));have e1:=HTE.out
      rw[HCW.out q.1]at e1;have e2:=mC s
      rw[←e1,HKL.out,hk0]at e2;exact eE s (List.length_eq_zero_iff.1 e2.symm)
     have hk0b:((k:Int)==0)=true:=by rw[hk0];rfl
     have HOo:=aA (iW wr w.heap.size HBw.out.size);have HBo:=aA (HBw.out.alloc HBw.out.size (.cells #[] 79))
     clear hk0;go_wp2
     go_ret2
     exact⟨_,_,by rw[HZ.out];rfl,HBo.out,by rw[HZ.out];exact HOo.out⟩
    ·have hk0b:((k:Int)==0)=false:=beq_eq_false_iff_ne.2 (by omega)
     have HL4:Hid (s.length≤400):=aA<|Decidable.byContradiction fun q=>hk0 (by
      have:=HTE.out;rw[HCZ.out q]at this
      rw[←HKL.out,this];rfl)
     have HTW:Hid (ts=wT s):=by rw[HTE.out];exact aA (HCW.out HL4.out)
     obtain⟨a5,c5,hv5,hout⟩:=aT (dA HI.out.1 hs1) (by rw[HKL.out];omega);rw[HKL.out]at hv5;cases hv5;have HOUT:=aA hout
     have hrd:=hout.1;rw[HKL.out]at hrd;have HRD:=aA hrd
     obtain⟨ok,hok⟩:∃b,aS k (lf ts)=b:=⟨_,rfl⟩
     have HOKC:=aA (eH wr _ _ _ _ hrd);rw[hok]at HOKC;have HOK:=aA hok
     clear hout hrd hok;go_wp2_with fail;refine HOKC.out.mono ?_;rintro r w4 ⟨rfl,hb4⟩;have HB4:=aA (aD HBw.out hb4)
     have HOUT4:=aA (HOUT.out.below hb4);have HRD4:=aA (HRD.out.below hb4)
     clear hb4 HOKC;cases ok
     ·have HZ:Hid (Rr=([],false)):=by
       rw[←HRR.out];refine aA (gW HH0.out (fun q=>?_));have e1:=q.2.1
       rw[←HTW.out,HKL.out,HOK.out]at e1;cases e1
      have HOo:=aA (iW w4 w.heap.size HB4.out.size);have HBo:=aA (HB4.out.alloc HB4.out.size (.cells #[] 79))
      go_wp2
      go_ret2
      exact⟨_,_,by rw[HZ.out];rfl,HBo.out,by rw[HZ.out];exact HOo.out⟩
     ·obtain⟨S,hS⟩:∃S,bV k (lf ts)=S:=⟨_,rfl⟩
      have HTC:=aA (nQ w4 _ _ _ _ HRD4.out);rw[hS]at HTC;have HS:=aA hS
      clear hS;go_wp2_with fail;refine HTC.out.mono ?_;rintro r w5 ⟨rfl,hb5⟩;have HB5:=aA (aD HB4.out hb5)
      have HOUT5:=aA (HOUT4.out.below hb5);clear hb5 HTC;by_cases q:S=s
      ·have HZ:Hid (Rr=(ts,true)):=by
        rw[←HRR.out];have e1:=jT HH0.out HL4.out (by rw[←HTW.out,HKL.out];exact HOK.out) (by rw[←HTW.out,HKL.out,HS.out];exact q)
        rw[←HTW.out]at e1;exact aA e1
       clear HS HM HCW HCZ HN HTE HTW HRR;subst q;go_wp2
       go_ret2
       exact⟨_,_,by rw[HZ.out,HKL.out];rfl,HB5.out,by rw[HZ.out];exact HOUT5.out⟩
      ·have HZ:Hid (Rr=([],false)):=by
        rw[←HRR.out];refine aA (gW HH0.out (fun z=>q ?_));have e1:=z.2.2
        rw[←HTW.out,HKL.out,HS.out]at e1;exact e1
       have q1:(S==s)=false:=beq_eq_false_iff_ne.2 q;have HOo:=aA (iW w5 w.heap.size HB5.out.size)
       have HBo:=aA (HB5.out.alloc HB5.out.size (.cells #[] 79));clear HS q;go_wp2
       go_ret2
       exact⟨_,_,by rw[HZ.out];rfl,HBo.out,by rw[HZ.out];exact HOo.out⟩
end Go.Proofs.YtkcmamepoplcdaaGreatDoor
