/-
  The draws of FnDskText: some line, and some text of at most a thousand bytes.
-/
import Derived.Test.YtkcmamepoplcdaaGreatDoorVbw
import Derived.Stop.LaidErr
import Derived.LaidMore
import Derived.OpenShut
import Derived.ChangeArms
set_option maxHeartbeats 8000000
set_option maxRecDepth 100000
namespace Go.Proofs.YtkcmamepoplcdaaGreatDoor
open Go.Shelf Go.RowKit
set_option linter.unusedVariables false
set_option linter.unusedSimpArgs false
theorem RQ (k to a b:Int) (n:Nat) (f:Nat→T):(eI k to a b n f).length≤400:=by
 unfold eI;split
 ·rename_i h;exact h.2
 ·simp
theorem V5.beside {w w':World} {b B:Nat} {x0 x1 x2 x3 x4:Value} (h:V5 w b x0 x1 x2 x3 x4) (hs:aH B w w') (hn:b≠B):V5 w' b x0 x1 x2 x3 x4:=by have e:=hs.block b h.lt hn;exact⟨⟨(lM (a:=⟨b,0,none⟩) e).trans h.1.1,(lM (a:=⟨b,1,none⟩) e).trans h.1.2.1,(lM (a:=⟨b,2,none⟩) e).trans h.1.2.2.1,(lM (a:=⟨b,3,none⟩) e).trans h.1.2.2.2.1,(lM (a:=⟨b,4,none⟩) e).trans h.1.2.2.2.2⟩,fun j=>(World.frozen?_of_block (a:=⟨b,j,none⟩) e).trans (h.2 j)⟩
theorem KU {w w':World} {B p:Nat} (h:iN w B p) (hb:Below w.heap.size w w'):iN w' B p:=by
 have hlt:=h.lt;obtain⟨hc1,hf,a,len,cap,hc0,hl,h0⟩:=h;have he:=hb.block B hlt
 refine⟨(lM (w:=w) (a:=⟨B,1,none⟩) he).trans hc1,(World.frozen?_of_block (w:=w) (a:=⟨B,1,none⟩) he).trans hf,a,len,cap,(lM (w:=w) (a:=⟨B,0,none⟩) he).trans hc0,hl,?_⟩;rcases h0 with h0|⟨bb,off,z,rfl,hbb,hz,z0,z1⟩
 ·exact .inl h0
 ·exact .inr ⟨bb,off,z,rfl,hbb,fun i hi=>(lM (w:=w) (a:=⟨bb,off+i,none⟩) (hb.block bb (by omega))).trans (hz i hi),z0,z1⟩
open Go.Shelf Go.RowKit Go.Deep
def TR:Value→Nat
 | .slice _ n _=>n
 |_=>0
def vS (w wr:World) (v:Value) (Ls:List (List UInt8)) (q:Nat):Prop:=qB (w.heap.size+1) v Ls wr∧iN wr w.heap.size q∧Below w.heap.size w wr∧∀l∈Ls,l.length≤1000
theorem lE {w wr w':World} {v:Value} {Ls:List (List UInt8)} {q:Nat} (h:vS w wr v Ls q) (hb:Below wr.heap.size wr w'):vS w w' v Ls q:=
 ⟨aR h.1 hb,KU h.2.1 hb,aC h.2.2.1 hb,h.2.2.2⟩
theorem iI {w wr w':World} {v:Value} {Ls:List (List UInt8)} {q q':Nat} (h:vS w wr v Ls q) (hr:iN w' w.heap.size q') (hb:aH w.heap.size wr w'):vS w w' v Ls q':=
 ⟨cQ h.1 hb (by omega),hr,hb.below h.2.2.1 (Nat.le_refl _) h.2.2.1.size,h.2.2.2⟩
theorem sW {w wr w7:World} {v:Value} {Ls:List (List UInt8)} {q:Nat} (h:vS w wr v Ls q) {t:List UInt8} (ht:t.length≤1000) {g1 cap1:Nat} (hown:w7.ownsRow (w.heap.size+1) 9 1 (.slice (some ⟨g1,0,none⟩) (Ls.length+1) cap1) (Ls.length+1) (rM Ls++[.string ⟨t.toArray⟩])) (hg:wr.grownBy w7 v.ownBlock):vS w w7 (.slice (some ⟨g1,0,none⟩) (Ls.length+1) cap1) (Ls++[t]) q:=by
 have hty:=uX h.1;refine⟨?_,h.2.1.grown hg (fun k e=>(hty k e).1),h.2.2.1.grown hg h.2.2.1.size (fun k e=>by have:=(hty k e).1;omega),fun l hl=>?_⟩
 ·show World.ownsRow _ _ _ _ _ _ _;rw[jV,List.length_append];exact hown
 ·rcases List.mem_append.1 hl with q|q
  ·exact h.2.2.2 l q
  ·rw[List.mem_singleton.1 q];exact ht
theorem AY (w:World) (a0:Option Addr) (len cap:Nat) (h:QJ w a0 len cap):Calls Tryz.prog 25 #[.slice a0 len cap] w fun e w'=>∃(v:Value) (W:List (List UInt8)),e= .returned v∧Below w.heap.size w w'∧qB w.heap.size v W w'∧W.length≤100∧∀l∈W,l.length≤1048576:=by
 obtain⟨i0,hi0,hz0,hz1,hz2⟩:=info_parts pM;go_enter Tryz.func25,Tryz.ntmps25;go_wp2_with fail;refine(KD _ _ _ _ h).mono ?_;rintro e w1 ⟨rfl,r1,b1⟩;have HI0:Hid (vS w (w1.alloc (.cells #[] 9)) (.slice (some ⟨w1.heap.size,0,none⟩) 0 0) [] 0):=aA ⟨oU w1 _ r1.lt,KU r1 (aF _ _),aC b1 (aF _ _),fun l hl=>by cases hl⟩
 clear h r1 b1;go_wp2_with fail;generalize w1.alloc (.cells #[] 9)=w2 at HI0⊢;generalize w1.heap.size=G0 at HI0⊢;refine(aI _ _ _ _ HI0.out.2.1 (by omega) (by omega) (by omega)).mono ?_;rintro e w3 ⟨n,rfl,n0,n1,hk⟩;have HI1:=aA (iI HI0.out (hk.rdr HI0.out.2.1) hk.beside)
 clear HI0 hk;go_wp2;go_loopw [4,5] (fun vo vn wr=>∃(j:Nat) (tv:Value) (Ls:List (List UInt8)) (q:Nat),vn= .int .i64 (j:Int)∧vo=tv∧Ls.length+j≤19∧q+910*j≤18000∧Hid (vS w wr tv Ls q)) (fun _ vn _=>(intOf vn).toNat);case atStart=>exact⟨n.toNat,_,[],1,by rw[Int.toNat_of_nonneg n0],rfl,by simp;omega,by omega,HI1⟩
 case round=>
  obtain⟨j,tv,Ls,q,rfl,hvt,hLj,hq,HI⟩:=hrel;obtain rfl:=hvt.symm;by_cases hj0:0<j
  ·have hjb:(0:Int)<(j:Int):=by omega
   have hjw:IntKind.i64.wrap ((j:Int)-1)=(j:Int)-1:=by rw[IntKind.wrap_i64];omega
   go_wp2_with fail;refine(JN _ _ _ 40 HI.out.2.1 (by omega) (by omega) (by omega)).mono ?_;rintro e w4 ⟨k,to,a,b,pa,m,c,f,q4,rfl,hrd,hm,haw,hq4,r4,s4⟩;have HI4:=aA (iI HI.out r4 s4)
   have hTX:=aA (dQ k to a b pa m c f w4 hrd);have hle:=RQ k to a b m f
   obtain⟨S,hS⟩:∃S,eI k to a b m f=S:=⟨_,rfl⟩
   rw[hS]at hTX hle;clear hrd haw r4 s4 HI hS;go_wp2_with fail;refine hTX.out.mono ?_;rintro e w5 ⟨rfl,hb⟩;have HI5:=aA (lE HI4.out hb)
   clear hb hTX HI4;go_wp2_with fail;refine(aI _ _ _ 12 HI5.out.2.1 (by omega) (by omega) (by omega)).mono ?_;rintro e w6 ⟨x,rfl,x0,x1,hk⟩;have HI6:=aA (iI HI5.out (hk.rdr HI5.out.2.1) hk.beside)
   clear HI5 hk;have hmax:Ls.length+1≤maxLen:=by unfold maxLen;omega
   by_cases hx:x=0
   ·have hxb:(x==0)=true:=by simp[hx]
    clear hx;go_wp2_with fail;refine(IA _ _ _ S HI6.out.2.1 (by omega) (by omega)).mono ?_;rintro e wb ⟨S2,q6,rfl,hl2,hq6,r6,s6⟩;have HIb:=aA (iI HI6.out r6 s6)
    clear HI6 r6 s6;have hSS:S2.length≤1000:=by omega
    have HA:=aA (lE HIb.out (aF wb (.cells #[.string ⟨S2.toArray⟩] 9)));have HNW:=aA (heap_alloc_new wb (.cells #[.string ⟨S2.toArray⟩] 9))
    have HOW:=aA HA.out.1;have hbs:w.heap.size+1≤(wb.alloc (.cells #[.string ⟨S2.toArray⟩] 9)).heap.size:=by have:=HA.out.2.1.lt;omega
    go_wp2_with (at_builtin;refine wpList_append_lies _ rfl (.tmp 25) (.tmp 27) 30 rfl (w.heap.size+1) 9 i0 _ 1 16 Tryz.underlying30 hi0 hz0 hz1 hz2 rfl (by omega) tv Ls.length (rM Ls) rfl HOW.out ⟨wb.heap.size,0,none⟩ 1 1 [.string ⟨S2.toArray⟩] rfl rfl (World.news_of_block HNW.out) (fW _) (by omega) hmax (by omega) hbs _ rfl ?_;intro g1 cap1 w7 hown2 hgrow2 hat2 hlt2;have HF:=aA (sW HA.out hSS hown2 hgrow2);clear hown2 hgrow2 hat2 hlt2);go_roundw;case rel=>exact⟨j-1,_,Ls++[S2],q6,by first|(go_num;done)|(congr 1;omega),rfl,by rw[List.length_append];simp;omega,by omega,HF⟩
    case measure=>simp[intOf];omega
   ·have hxb:(x==0)=false:=by simp[hx]
    clear hx;have hSS:S.length≤1000:=by omega
    have HA:=aA (lE HI6.out (aF w6 (.cells #[.string ⟨S.toArray⟩] 9)));have HNW:=aA (heap_alloc_new w6 (.cells #[.string ⟨S.toArray⟩] 9))
    have HOW:=aA HA.out.1;have hbs:w.heap.size+1≤(w6.alloc (.cells #[.string ⟨S.toArray⟩] 9)).heap.size:=by have:=HA.out.2.1.lt;omega
    go_wp2_with (at_builtin;refine wpList_append_lies _ rfl (.tmp 25) (.tmp 27) 30 rfl (w.heap.size+1) 9 i0 _ 1 16 Tryz.underlying30 hi0 hz0 hz1 hz2 rfl (by omega) tv Ls.length (rM Ls) rfl HOW.out ⟨w6.heap.size,0,none⟩ 1 1 [.string ⟨S.toArray⟩] rfl rfl (World.news_of_block HNW.out) (fW _) (by omega) hmax (by omega) hbs _ rfl ?_;intro g1 cap1 w7 hown2 hgrow2 hat2 hlt2;have HF:=aA (sW HA.out hSS hown2 hgrow2);clear hown2 hgrow2 hat2 hlt2);go_roundw;case rel=>exact⟨j-1,_,Ls++[S],q4+1,by first|(go_num;done)|(congr 1;omega),rfl,by rw[List.length_append];simp;omega,by omega,HF⟩
    case measure=>simp[intOf];omega
  ·have hnj:¬(0:Int)<(j:Int):=by omega
   go_wp2_with fail;refine(aI _ _ _ 40 HI.out.2.1 (by omega) (by omega) (by omega)).mono ?_;rintro e w4 ⟨x,rfl,x0,x1,hk⟩;have HI4:=aA (iI HI.out (hk.rdr HI.out.2.1) hk.beside)
   clear HI hk;by_cases hx:x=0
   ·have hxb:(x==0)=true:=by simp[hx]
    clear hx;go_wp2;go_loopw [4] (fun vo wr=>∃(tv:Value) (Ls:List (List UInt8)),vo=tv∧Ls.length≤61∧Hid (vS w wr tv Ls (q+1))) (fun vo _=>100-TR vo);case atStart=>exact⟨_,Ls,rfl,by omega,HI4⟩
    case round=>
     obtain⟨tv,Ls,hvt,hL6,HI⟩:=hrel;obtain rfl:=hvt.symm;obtain⟨a,cp,rfl⟩:∃a cp,tv= .slice a Ls.length cp:=by
      rcases HI.out.1.2 with⟨e1,e0⟩|⟨g,cap,cur,e1,_⟩
      ·exact⟨none,0,by rw[e1,e0]⟩
      ·exact⟨_,_,e1⟩
     by_cases h60:Ls.length≤60
     ·have h60I:(Ls.length:Int)≤60:=by omega
      have hmax:Ls.length+1≤maxLen:=by unfold maxLen;omega
      have hSS:([115,104,111,119,32,65]:List UInt8).length≤1000:=by decide
      have HA:=aA (lE HI.out (aF wr (.cells #[.string ⟨#[115,104,111,119,32,65]⟩] 9)));have HNW:=aA (heap_alloc_new wr (.cells #[.string ⟨#[115,104,111,119,32,65]⟩] 9))
      have HOW:=aA HA.out.1;have hbs:w.heap.size+1≤(wr.alloc (.cells #[.string ⟨#[115,104,111,119,32,65]⟩] 9)).heap.size:=by have:=HA.out.2.1.lt;omega
      go_wp2_with (at_builtin;refine wpList_append_lies _ rfl (.tmp 35) (.tmp 36) 30 rfl (w.heap.size+1) 9 i0 _ 1 16 Tryz.underlying30 hi0 hz0 hz1 hz2 rfl (by omega) (.slice a Ls.length cp) Ls.length (rM Ls) rfl HOW.out ⟨wr.heap.size,0,none⟩ 1 1 [.string ⟨#[115,104,111,119,32,65]⟩] rfl rfl (World.news_of_block HNW.out) (fW _) (by omega) hmax (by omega) hbs _ rfl ?_;intro g1 cap1 w7 hown2 hgrow2 hat2 hlt2;have HF:=aA (sW HA.out (t:=[115,104,111,119,32,65]) hSS hown2 hgrow2);clear hown2 hgrow2 hat2 hlt2);go_roundw;case rel=>exact⟨_,Ls++[[115,104,111,119,32,65]],rfl,by rw[List.length_append];simp;omega,HF⟩
      case measure=>simp[TR];omega
     ·have h60I:¬(Ls.length:Int)≤60:=by omega
      go_wp2;go_ret;exact⟨_,rfl,HI.out.2.2.1,Ls,⟨HI.out.1.1,HI.out.1.2.imp id (fun⟨g,cap,cur,q,hlo,r⟩=>⟨g,cap,cur,q,by omega,r⟩)⟩,by omega,fun l hl=>iS (HI.out.2.2.2 l hl) (by omega)⟩
   ·have hxb:(x==0)=false:=by simp[hx]
    clear hx;go_wp2;go_ret;exact⟨_,Ls,rfl,HI4.out.2.2.1,⟨HI4.out.1.1,HI4.out.1.2.imp id (fun⟨g,cap,cur,q,hlo,r⟩=>⟨g,cap,cur,q,by omega,r⟩)⟩,by omega,fun l hl=>iS (HI4.out.2.2.2 l hl) (by omega)⟩
end Go.Proofs.YtkcmamepoplcdaaGreatDoor
namespace Go.Proofs.YtkcmamepoplcdaaGreatDoor
open Go.RowKit
set_option linter.unusedVariables false
theorem RC : Tryz.prog.globalNamed "strconv.ErrRange" = some 8 := by kernel_rfl
theorem NP : Tryz.prog.globalNamed "strconv.ErrSyntax" = some 7 := by kernel_rfl
theorem NO:(Tryz.prog.globals[8]?).map (·.type)=some 97:=by kernel_rfl
theorem IZ:(Tryz.prog.globals[7]?).map (·.type)=some 97:=by kernel_rfl
theorem DU : "*" ++ "errors.errorString" = "*errors.errorString" := by decide
theorem KZ (u : TypeId) (h : Tryz.prog.typeName? 3 u = some "*errors.errorString") : u = 225 :=
 typeName_ptr_named (nm := "errors.errorString") (by rw [DU]; kernel_rfl) (by kernel_rfl) (by decide) u (by rw [DU]; exact h)
theorem TF {W : World} {a b c : String × DataW Unit} {r : List (String × DataW Unit)} (h : laidMet Tryz.prog (a :: b :: c :: ("strconv.ErrRange", Rows.laid_strconv_ErrRange) :: ("strconv.ErrSyntax", Rows.laid_strconv_ErrSyntax) :: r) W) : Er W := by
 have h1:=h.tail.tail.tail;have h2:=h1.tail
 obtain⟨a1,s1,v1, -, -, -⟩:=laid_sentinel h1 RC NO Tryz.underlying97 KZ Tryz.underlying225 Tryz.underlying227 rfl rfl Tryz.underlying9 (by kernel_rfl) (by kernel_rfl);obtain⟨a2,s2,v2, -, -, -⟩:=laid_sentinel h2 NP IZ Tryz.underlying97 KZ Tryz.underlying225 Tryz.underlying227 rfl rfl Tryz.underlying9 (by kernel_rfl) (by kernel_rfl);exact⟨⟨_,_,v2⟩,⟨_,_,v1⟩⟩
theorem FX {W : World} {rest : List (String × DataW Unit)} {n0 n1 : String} {d0 d1 : DataW Unit}
    (h : laidMet Tryz.prog ((n0, d0) :: (n1, d1) :: ("internal/strconv.uint64pow10", Rows.laid_internal_strconv_uint64pow10) :: rest) W) : Tb W := by
  have e:(Rows.laid_internal_strconv_uint64pow10:DataW Unit)=Lib.tabData .u64 Lib.pow10Tab:=by kernel_rfl
  rw[e]at h
  obtain⟨ps,⟨_,_,_,_,_,_,_,_,_,_,⟨_,_,_,_,_,_,_,_,_,_,⟨g',t',cs,fuel,p,q,hg',ht',hvar,hd,_,_⟩,_⟩,_⟩,_⟩:=h
  obtain rfl := Option.some.inj ((show Tryz.prog.globalNamed "internal/strconv.uint64pow10" = some 2 by kernel_rfl).symm.trans hg')
  obtain rfl:=Option.some.inj ((show(Tryz.prog.globals[2]?).map (·.type)=some 175 by kernel_rfl).symm.trans ht')
  show Lib.TabIs _ _ _ _ _
  unfold Lib.TabIs
  rw[hvar,←Lib.cells_of_tab Tryz.underlying175 Tryz.underlying144 (by kernel_rfl) (by kernel_rfl) hd]
set_option linter.unusedSimpArgs false
theorem nU : Tryz.prog.globalNamed "loop.example/selvedge/impl.dskWords" = some 0 := by kernel_rfl
theorem vP:(Tryz.prog.globals[0]?).map (·.type)=some 67:=by kernel_rfl
def wordsA:Array Value:=#[.string ⟨#[]⟩,.string ⟨#[115,101,116]⟩,.string ⟨#[97,100,100]⟩,.string ⟨#[109,117,108]⟩,.string ⟨#[97,112,97,114,116]⟩,.string ⟨#[100,111]⟩,.string ⟨#[114,111,117,110,100]⟩,.string ⟨#[98,97,99,107]⟩,.string ⟨#[115,104,111,119]⟩]
theorem AK {H:Type} {enc:TypeId×Value→H} {w:World} {base:Nat} {sp:Nat→Bool} {held:Bool} {fuel:Nat} {cs:List Value} {p:List MemPlace} (h:DataW.trod enc Tryz.prog w base sp held fuel 67 cs=some (Rows.laid_loop_example_selvedge_impl_dskWords,p)):cs=wordsA.toList:=by
 obtain⟨xs,m,hk,hx,hl,hlen,hf⟩:=DataW.trod_array Tryz.underlying67 h;have hc9:Tryz.prog.cellsOf 67=9:=by kernel_rfl
 have hc1:Tryz.prog.cellsOf 9=1:=by kernel_rfl
 rw[hc9]at hl;simp only[hc1,Nat.mul_one]at hf;have hm:xs.map (·.1)=[.lit (.string []),.lit (.string [115,101,116]),.lit (.string [97,100,100]),.lit (.string [109,117,108]),.lit (.string [97,112,97,114,116]),.lit (.string [100,111]),.lit (.string [114,111,117,110,100]),.lit (.string [98,97,99,107]),.lit (.string [115,104,111,119])]:=by
  have h1:=congrArg Prod.fst hx;have h2:(DataW.agg [.lit (.string []),.lit (.string [115,101,116]),.lit (.string [97,100,100]),.lit (.string [109,117,108]),.lit (.string [97,112,97,114,116]),.lit (.string [100,111]),.lit (.string [114,111,117,110,100]),.lit (.string [98,97,99,107]),.lit (.string [115,104,111,119])]:DataW H)=DataW.agg (xs.map (·.1)):=h1
  injection h2 with h3;exact h3.symm
 have key:∀(i:Nat) (bytes:List UInt8),i<9→(xs.map (·.1))[i]? =some (.lit (.string bytes))→cs[i]? =some (.string ⟨bytes.toArray⟩):=fun i bytes hi hb=>by
  rw[List.getElem?_map]at hb;cases hy:xs[i]? with
  |none=>rw[hy]at hb;cases hb
  |some y=>
   rw[hy]at hb;have h1:=hf i hi
   rw[hy]at h1;obtain⟨s,e1,e2,_⟩:=DataW.trod_string Tryz.underlying9 h1;rw[e2]at hb;have h3:s.data.toList=bytes:=by simp at hb;exact hb
   have h4:=congrArg (·[0]?) e1;simp[List.getElem?_drop]at h4;rw[h4,←h3]
 rw[hm]at key;apply List.ext_getElem?;intro i;by_cases hi:i<9
 ·rcases(show i=0∨i=1∨i=2∨i=3∨i=4∨i=5∨i=6∨i=7∨i=8 by omega)with rfl|rfl|rfl|rfl|rfl|rfl|rfl|rfl|rfl;all_goals(rw[key _ _ hi rfl];rfl)
 ·rw[List.getElem?_eq_none (by omega),List.getElem?_eq_none (by show 9≤i;omega)]
theorem TE {W : World} (h : W.var? Tryz.prog "loop.example/selvedge/impl.dskWords" = some wordsA) : Dw W := fun k h1 h8 => by
 unfold World.var? at h;rw[nU]at h;simp only[Option.bind_some]at h;cases hb:W.heap[0]? with
 |none=>rw[hb]at h;simp at h
 |some o=>
  rw[hb]at h;cases o with
  |cells c t fr=>
   simp at h;subst h;rw[cell_of_row W 0 k _ _ _ hb];rcases(show k=1∨k=2∨k=3∨k=4∨k=5∨k=6∨k=7∨k=8 by omega)with rfl|rfl|rfl|rfl|rfl|rfl|rfl|rfl<;>rfl
  |_=>simp at h
theorem NH {W : World} {a b c : String × DataW Unit} {r : List (String × DataW Unit)} (h : laidMet Tryz.prog (a :: b :: c :: ("loop.example/selvedge/impl.dskWords", Rows.laid_loop_example_selvedge_impl_dskWords) :: r) W) : W.var? Tryz.prog "loop.example/selvedge/impl.dskWords" = some wordsA := by
 have h1:=h.tail.tail.tail;obtain⟨ps,⟨g1,t1,cs1,fuel1,p1,q1,hg1,ht1,hv1,hd1,_,_⟩,_⟩:=h1;obtain rfl:=Option.some.inj (nU.symm.trans hg1);obtain rfl:=Option.some.inj (vP.symm.trans ht1);rw[hv1];congr 1;exact Array.toList_inj.1 (AK hd1)
end Go.Proofs.YtkcmamepoplcdaaGreatDoor
