/-
  The model writes a line (DskText).
-/
import Derived.Test.YtkcmamepoplcdaaGreatDoorUbh
import Derived.Test.YtkcmamepoplcdaaGreatDoorUbi
import Derived.Test.YtkcmamepoplcdaaGreatDoorUbj
import Derived.Test.YtkcmamepoplcdaaGreatDoorUbc
import Derived.Test.YtkcmamepoplcdaaGreatDoorUbg
import Derived.Laws.DeepStrings4
import Derived.Stop.LaidErr
import Derived.LaidMore
import Derived.OpenShut
import Derived.ChangeArms
set_option maxHeartbeats 16000000
set_option maxRecDepth 100000
namespace Go.Proofs.YtkcmamepoplcdaaGreatDoor
open Go.RowKit
set_option linter.unusedVariables false
set_option linter.unusedSimpArgs false
theorem CD (k to a b:Int) (pa:Option Addr) (n cap:Nat) (f:Nat→T) (w:World) (h:Rd w pa n cap f):Calls Tryz.prog 23 #[.agg #[.int .i64 k,.int .i64 to,.int .i64 a,.int .i64 b,.slice pa n cap]] w fun r w'=>r= .returned (.string ⟨(dH k to a b n f).toArray⟩)∧Below w.heap.size w w':=by
 rcases(show(k<1∨(1≤k∧8<k))∨k=1∨k=2∨k=3∨k=4∨k=5∨k=6∨k=7∨k=8 by omega)with hk|rfl|rfl|rfl|rfl|rfl|rfl|rfl|rfl
 ·exact OK k hk to a b pa n cap f w h
 ·exact OL to a b pa n cap f w h
 ·exact ON to a b pa n cap f w h
 ·exact OO to a b pa n cap f w h
 ·exact OP to a b pa n cap f w h
 ·exact OQ to a b pa n cap f w h
 ·exact OR to a b pa n cap f w h
 ·exact OS to a b pa n cap f w h
 ·exact OT to a b pa n cap f w h
open Go.Shelf Go.RowKit
theorem tX (w:World) (a:Option Addr) (len cap:Nat) (h:JW w a len cap):Calls Tryz.prog 28 #[.slice a len cap] w fun e w'=>∃(a':Option Addr) (m cap':Nat) (f:Nat→T),e= .returned (.slice a' m cap')∧Rd w' a' m cap' f∧m≤5∧Below w.heap.size w w':=by
 go_enter Tryz.func28,Tryz.ntmps28;go_wp2_with fail;refine(DF _ _ _ _ h).mono ?_;rintro e w1 ⟨rfl,r1,b1⟩;clear h;go_wp2_with fail;refine(FO _ _ _ _ r1 (by omega) (by omega) (by omega)).mono ?_;rintro e w2 ⟨a',m,cap',f,q,rfl,hrd,hm,_,hq,r2,s2⟩;have bz2:=s2.below b1 (by omega) b1.size
 clear r1 r2 s2 b1;go_wp2;go_ret;exact⟨a',m,cap',f,rfl,hrd,hm,bz2⟩
theorem GZ {w:World} {a:Option Addr} {n cap:Nat} {f:Nat→T} (h:Rd w a n cap f):∃L:List T,n=L.length∧Rd w a L.length cap (lf L):=by
 have hl:((List.range n).map f).length=n:=by simp
 have ha:∀i,i<n→lf ((List.range n).map f) i=f i:=fun i hi=>uG (by rw[List.getElem?_map,List.getElem?_range hi];rfl);refine⟨(List.range n).map f,hl.symm,?_⟩;rw[hl];obtain⟨h1,h2,h3⟩:=h;refine⟨h1,h2,h3.imp id (fun⟨b,off,e,hlt,hc⟩=>⟨b,off,e,hlt,fun i hi=>by rw[ha i hi];exact hc i hi⟩)⟩
theorem MN {S:List UInt8} {x:Int} {t:List UInt8} (h:S=[115,101,116,32,cB x,32]++t) (u:World):(Instr.slice 9 (.string ⟨S.toArray⟩) (some (.int .i64 4)) (some (.int .i64 5)) none).run Tryz.prog u= .ok (.string ⟨#[cB x]⟩) u:=by subst h;rw[run_slice_string_if _ _ _ _ _ _ _ Tryz.underlying9,if_pos ⟨by omega,by rw[gJ];simp;omega⟩,if_pos ⟨by omega,by omega⟩];rfl
theorem pE (w:World) (a0:Option Addr) (len0 cap0:Nat) (s0:JW w a0 len0 cap0) (hM:AU w) (hE:Er w) (hT:Tb w) (hD:Dw w):Calls Tryz.prog 7 #[.slice a0 len0 cap0] w fun e w'=>e= .returned (.bool true)∧Below w.heap.size w w':=by
 by_cases c0:(1048576:Int)<(len0:Int)
 ·go_enter Tryz.func7,Tryz.ntmps7;go_wp2;go_ret;exact⟨rfl,aD _ _⟩
 have HM:=aA hM;have HE:=aA hE
 have HT:=aA hT;have HD:=aA hD
 clear hM hE hT hD;go_enter Tryz.func7,Tryz.ntmps7;go_wp2_with fail;refine(tX w a0 len0 cap0 s0).mono ?_;rintro e wd ⟨pa,n,cap,f,rfl,hR,hn5,hbd⟩;obtain⟨p,rfl,hpp⟩:=GZ hR;have HP:=aA hpp
 have Z:=aA hbd;clear hR hpp hbd s0;obtain⟨x,hx,hx5⟩:∃x:Nat,len0%6=x∧x≤5:=⟨_,rfl,by omega⟩
 have hxI:(len0:Int)%6=(x:Int):=by omega
 have hxt:(len0:Int).tmod 6=(x:Int):=by rw[Int.tmod_eq_emod_of_nonneg (by omega)];exact hxI
 go_wp2_with fail;have bx:=aF wd (.cells #[.int .i64 1,.int .i64 (x:Int),.int .i64 0,.int .i64 0,.slice pa p.length cap] 24)
 have HP0:=aA (HP.out.below bx);have Z0:=aA (aC Z.out bx)
 have X0:=aA (V5.box wd 24 (.int .i64 1) (.int .i64 (x:Int)) (.int .i64 0) (.int .i64 0) (.slice pa p.length cap));clear bx HP Z;generalize wd.alloc (.cells #[.int .i64 1,.int .i64 (x:Int),.int .i64 0,.int .i64 0,.slice pa p.length cap] 24)=u0 at HP0 Z0 X0⊢;generalize wd.heap.size=B0 at X0⊢;have HSN:=aA (EC (x:=(x:Int)) (p:=p) (by omega) (by omega))
 have HSS:=aA (ED (x:=(x:Int)) (p:=p));have HFT:=aA (zH (x:=(x:Int)) (p:=p) (by omega) (by omega) hn5)
 have hSl:(dH 1 (x:Int) 0 0 p.length (lf p)).length≤400:=by unfold dH;split;(· rename_i h;exact h.2);(· simp)
 have HDI:=aA (fun u hb=>cU 1 (x:Int) 0 0 pa p.length cap (lf p) u hb);have HDS:=aA (fun u hb=>CD 1 (x:Int) 0 0 pa p.length cap (lf p) u hb)
 obtain⟨S,hS⟩:∃S,dH 1 (x:Int) 0 0 p.length (lf p)=S:=⟨_,rfl⟩
 rw[hS]at HSN HSS HFT hSl HDI HDS;clear hS;refine(HDI.out _ HP0.out (HT.out.below Z0.out) (HD.out.below Z0.out)).mono ?_;rintro e u1 ⟨rfl,hb⟩;have HP1:=aA (HP0.out.below hb)
 have Z1:=aA (aC Z0.out hb);have X1:=aA (X0.out.below hb)
 clear hb HP0 Z0 X0 HDI;obtain⟨⟨x0,x1,x2,x3,x4⟩,xz⟩:=X1.out;go_wp2_with fail;clear x0 x1 x2 x3 x4 xz;refine(HDS.out _ HP1.out).mono ?_;rintro e u2 ⟨rfl,hb⟩;have HP2:=aA (HP1.out.below hb)
 have Z2:=aA (aC Z1.out hb);have X2:=aA (X1.out.below hb)
 clear hb HP1 Z1 X1 HDS;have hSS:(S==S)=true:=beq_self_eq_true _
 obtain⟨⟨x0,x1,x2,x3,x4⟩,xz⟩:=X2.out;have HSH:=aA (fun(u:World) (hb:Below w.heap.size w u)=>cU 8 (x:Int) 0 0 none 0 0 (lf []) u (sB 0 u).1 (HT.out.below hb) (HD.out.below hb))
 rw[oY (x:=(x:Int)) (by omega) (by omega)]at HSH;obtain⟨SH,hSH⟩:∃t,eZ (x:Int)=t:=⟨_,rfl⟩
 have hs1:(SH==[])=false:=by rw[←hSH];exact beq_eq_false_iff_ne.2 (by unfold eZ;simp)
 have hs2:SH.isEmpty=false:=by rw[←hSH];rfl
 rw[hSH]at HSH HFT;go_wp2_with fail;clear x0 x1 x2 x3 x4 xz;refine(HSH.out _ Z2.out).mono ?_;rintro e u3 ⟨rfl,hb⟩;have HP3:=aA (HP2.out.below hb)
 have Z3:=aA (aC Z2.out hb);have X3:=aA (X2.out.below hb)
 clear hb HP2 Z2 X2 HSH;have HPT:=aA (fun(u:World) (hb:Below w.heap.size w u) (hr:Rd u pa p.length cap (lf p))=>oW u pa p.length cap (lf p) hr (HT.out.below hb))
 have HOK:=aA (fun(u:World) (hr:Rd u pa p.length cap (lf p))=>gS u pa p.length cap (lf p) hr);by_cases hS0:S=[]
 ·have hSb:S.isEmpty=true:=by rw[hS0];rfl
  have hSc:(S==[])=true:=by rw[hS0];rfl
  have HD:=aA (HSN.out hS0);clear hS0 HFT HSS HSN;go_wp2_with fail;obtain⟨PK,hPK⟩:∃t,aJ p.length (lf p)=t:=⟨_,rfl⟩
  obtain⟨PT,hPT⟩:∃t,bQ p.length (lf p)=t:=⟨_,rfl⟩
  rw[hPK,hPT]at HD;rw[hPT]at HPT;rw[hPK]at HOK;clear hPK hPT;refine(HOK.out _ HP3.out).mono ?_;rintro e u4 ⟨rfl,hb⟩;have HP4:=aA (HP3.out.below hb)
  have Z4:=aA (aC Z3.out hb);clear hb;cases PK
  ·go_wp2;go_ret;exact⟨rfl,Z4.out⟩
  ·have hlen:(390:Int)<(PT.length:Int):=by have:=HD.out.resolve_left (by simp);omega
   go_wp2_with fail;refine(HPT.out _ Z4.out HP4.out).mono ?_;rintro e u5 ⟨rfl,hb⟩;have Z5:=aA (aC Z4.out hb)
   clear hb;go_wp2;go_ret;exact⟨rfl,Z5.out⟩
 ·have hSb:S.isEmpty=false:=by cases S<;>simp at hS0⊢
  have hSc:(S==[])=false:=beq_eq_false_iff_ne.2 hS0;have hFT:=HFT.out hS0
  have hSE:=HSS.out hS0;clear hS0 HFT HSS HSN HOK;have hcut:=MN hSE
  clear hSE;obtain⟨t1,hW,ht1⟩:=hFT;obtain⟨PT,hPT⟩:∃t,bQ p.length (lf p)=t:=⟨_,rfl⟩
  rw[hPT]at hW ht1 HPT;clear hPT;obtain⟨AF,hAF⟩:∃t,kD (x:Int)=t:=⟨_,rfl⟩
  have hcat:(⟨#[97,100,100,32,70,32]⟩:ByteArray)++⟨#[cB (x:Int)]⟩++⟨#[32,69]⟩=⟨AF.toArray⟩:=by rw[←hAF];apply ByteArray.ext;simp[kD]
  have hAl:AF.length=9:=by rw[←hAF];rfl
  have hHl:SH.length=6:=by rw[←hSH];rfl
  have HRT:Hid (MG (u3.alloc (.cells #[.string ⟨S.toArray⟩,.string ⟨SH.toArray⟩,.string ⟨AF.toArray⟩,.string ⟨#[115,104,111,119,32,70]⟩] 9)) (some ⟨u3.heap.size,0,none⟩) 4 [S,SH,AF,eZ 5]):=aA ⟨Nat.le_refl _,.inr ⟨u3.heap.size,0,rfl,by simp,fun i l hl=>by
   rw[Nat.zero_add,World.cell?_alloc_at _ _ _ _ rfl];rcases i with _|_|_|_|i
   ·obtain rfl:=Option.some.inj hl;rfl
   ·obtain rfl:=Option.some.inj hl;rfl
   ·obtain rfl:=Option.some.inj hl;rfl
   ·obtain rfl:=Option.some.inj hl;rfl
   ·simp at hl⟩,fun l hl=>by
   simp only[List.mem_cons,List.not_mem_nil,or_false]at hl;rcases hl with rfl|rfl|rfl|rfl
   ·omega
   ·omega
   ·omega
   ·show 6≤1048576;omega⟩
  rw[hAF]at hW;clear hAF hSH;have bx:=aF u3 (.cells #[.string ⟨S.toArray⟩,.string ⟨SH.toArray⟩,.string ⟨AF.toArray⟩,.string ⟨#[115,104,111,119,32,70]⟩] 9)
  have HP4:=aA (HP3.out.below bx);have Z4:=aA (aC Z3.out bx)
  have X4:=aA (X3.out.below bx);have HRU:=aA (GD [S,SH,AF,eZ 5] _ _ _ HRT.out (HM.out.below Z4.out) (HE.out.below Z4.out) (HT.out.below Z4.out) (HD.out.below Z4.out))
  have ht1':=aA ht1;have hW':=aA hW
  clear bx HRT ht1 hW hAl hHl;go_wp2_with fail;refine HRU.out.mono ?_;rintro e u4 ⟨v,rfl,hb,hown⟩;rw[hW'.out]at hown;have HP5:=aA (HP4.out.below hb)
  have Z5:=aA (aC Z4.out hb);have X5:=aA (X4.out.below hb)
  obtain⟨g,cp,rfl⟩:∃g cp,v= .slice (some ⟨g,0,none⟩) 2 cp:=by
   rcases hown.2 with⟨q,h0⟩|⟨g,cp,cur,q,_⟩
   ·simp at h0
   ·exact⟨g,cp,q⟩
  have hglt:g<u4.heap.size:=(kC hown).2.2;have hc0:∀u:dF u4,u.1.cell? ⟨g,0,none⟩=some (.string ⟨PT.toArray⟩):=fun u=>(u.cell hglt).trans (lX hown (i:=0) (l:=PT) rfl)
  have hc1:∀u:dF u4,u.1.cell? ⟨g,1,none⟩=some (.string ⟨t1.toArray⟩):=fun u=>(u.cell hglt).trans (lX hown (i:=1) (l:=t1) rfl);have hcx:∀u:dF u4,u.1.cell? ⟨B0,1,none⟩=some (.int .i64 (x:Int)):=fun u=>(u.cell X5.out.lt).trans X5.out.1.2.1
  have HPU:∀u:dF u4,Hid (Calls Tryz.prog 30 #[.slice pa p.length cap] u.1 fun r w'=>r= .returned (.string ⟨PT.toArray⟩)∧Below u.1.heap.size u.1 w'):=fun u=>aA (HPT.out u.1 (aC Z5.out u.2) (HP5.out.below u.2));have ne:=dF.there u4
  clear hb hown HRU HP4 Z4 X4 X5 HP5 HPT hglt;have hPP:(PT==PT)=true:=beq_self_eq_true _
  by_cases h4:x=4
  ·have h4b:((x:Int)==4)=true:=by rw[h4];rfl
   clear h4;go_wp2_with fail;refine aS (by kernel_rfl) (by kernel_rfl) ?_;repeat(go_big_quiet_step (first|(go_at_call 30;refine bD (HPU _).out)|fail))
   refine wpQuiet_nil ?_;rintro _ ⟨u,rfl⟩;have HU:=aA (aC Z5.out u.2)
   clear hc0 hc1 hcx ne;go_wp2;go_ret;exact⟨rfl,HU.out⟩
  ·have h4b:((x:Int)==4)=false:=beq_eq_false_iff_ne.2 (by omega);obtain rfl:t1=PT:=ht1'.out.resolve_left (by omega);clear h4;go_wp2_with fail;refine aS (by kernel_rfl) (by kernel_rfl) ?_;repeat(go_big_quiet_step (first|(go_at_call 30;refine bD (HPU _).out)|fail))
   refine wpQuiet_nil ?_;rintro _ ⟨u,rfl⟩;have HU:=aA (aC Z5.out u.2)
   clear hc0 hc1 hcx ne;go_wp2;go_ret;exact⟨rfl,HU.out⟩
end Go.Proofs.YtkcmamepoplcdaaGreatDoor
namespace Go.Proofs.YtkcmamepoplcdaaGreatDoor
open Go.RowKit
set_option linter.unusedVariables false
theorem KN : Tryz.prog.globalNamed "strconv.ErrRange" = some 8 := by kernel_rfl
theorem GM : Tryz.prog.globalNamed "strconv.ErrSyntax" = some 7 := by kernel_rfl
theorem GL:(Tryz.prog.globals[8]?).map (·.type)=some 97:=by kernel_rfl
theorem CM:(Tryz.prog.globals[7]?).map (·.type)=some 97:=by kernel_rfl
theorem yI : "*" ++ "errors.errorString" = "*errors.errorString" := by decide
theorem DY (u : TypeId) (h : Tryz.prog.typeName? 3 u = some "*errors.errorString") : u = 225 :=
 typeName_ptr_named (nm := "errors.errorString") (by rw [yI]; kernel_rfl) (by kernel_rfl) (by decide) u (by rw [yI]; exact h)
theorem MR {W : World} {a b c : String × DataW Unit} {r : List (String × DataW Unit)} (h : laidMet Tryz.prog (a :: b :: c :: ("strconv.ErrRange", Rows.laid_strconv_ErrRange) :: ("strconv.ErrSyntax", Rows.laid_strconv_ErrSyntax) :: r) W) : Er W := by
 have h1:=h.tail.tail.tail;have h2:=h1.tail
 obtain⟨a1,s1,v1, -, -, -⟩:=laid_sentinel h1 KN GL Tryz.underlying97 DY Tryz.underlying225 Tryz.underlying227 rfl rfl Tryz.underlying9 (by kernel_rfl) (by kernel_rfl);obtain⟨a2,s2,v2, -, -, -⟩:=laid_sentinel h2 GM CM Tryz.underlying97 DY Tryz.underlying225 Tryz.underlying227 rfl rfl Tryz.underlying9 (by kernel_rfl) (by kernel_rfl);exact⟨⟨_,_,v2⟩,⟨_,_,v1⟩⟩
theorem AK {W : World} {rest : List (String × DataW Unit)} {n0 n1 : String} {d0 d1 : DataW Unit}
    (h : laidMet Tryz.prog ((n0, d0) :: (n1, d1) :: ("internal/strconv.uint64pow10", Rows.laid_internal_strconv_uint64pow10) :: rest) W) : Tb W := by
  have e:(Rows.laid_internal_strconv_uint64pow10:DataW Unit)=Lib.tabData .u64 Lib.pow10Tab:=by kernel_rfl
  rw[e]at h
  obtain⟨ps,⟨_,_,_,_,_,_,_,_,_,_,⟨_,_,_,_,_,_,_,_,_,_,⟨g',t',cs,fuel,p,q,hg',ht',hvar,hd,_,_⟩,_⟩,_⟩,_⟩:=h
  obtain rfl := Option.some.inj ((show Tryz.prog.globalNamed "internal/strconv.uint64pow10" = some 2 by kernel_rfl).symm.trans hg')
  obtain rfl:=Option.some.inj ((show(Tryz.prog.globals[2]?).map (·.type)=some 175 by kernel_rfl).symm.trans ht')
  show Lib.TabIs _ _ _ _ _
  unfold Lib.TabIs
  rw[hvar,←Lib.cells_of_tab Tryz.underlying175 Tryz.underlying144 (by kernel_rfl) (by kernel_rfl) hd]
set_option linter.unusedSimpArgs false
theorem kW : Tryz.prog.globalNamed "loop.example/selvedge/impl.dskWords" = some 0 := by kernel_rfl
theorem rG:(Tryz.prog.globals[0]?).map (·.type)=some 67:=by kernel_rfl
def wordsA:Array Value:=#[.string ⟨#[]⟩,.string ⟨#[115,101,116]⟩,.string ⟨#[97,100,100]⟩,.string ⟨#[109,117,108]⟩,.string ⟨#[97,112,97,114,116]⟩,.string ⟨#[100,111]⟩,.string ⟨#[114,111,117,110,100]⟩,.string ⟨#[98,97,99,107]⟩,.string ⟨#[115,104,111,119]⟩]
theorem vH {H:Type} {enc:TypeId×Value→H} {w:World} {base:Nat} {sp:Nat→Bool} {held:Bool} {fuel:Nat} {cs:List Value} {p:List MemPlace} (h:DataW.trod enc Tryz.prog w base sp held fuel 67 cs=some (Rows.laid_loop_example_selvedge_impl_dskWords,p)):cs=wordsA.toList:=by
 obtain⟨xs,m,hk,hx,hl,hlen,hf⟩:=DataW.trod_array Tryz.underlying67 h;have hc9:Tryz.prog.cellsOf 67=9:=by kernel_rfl
 have hc1:Tryz.prog.cellsOf 9=1:=by kernel_rfl
 rw[hc9]at hl;simp only[hc1,Nat.mul_one]at hf;have hm:xs.map (·.1)=[.lit (.string []),.lit (.string [115,101,116]),.lit (.string [97,100,100]),.lit (.string [109,117,108]),.lit (.string [97,112,97,114,116]),.lit (.string [100,111]),.lit (.string [114,111,117,110,100]),.lit (.string [98,97,99,107]),.lit (.string [115,104,111,119])]:=by
  have h1:=congrArg Prod.fst hx;have h2:(DataW.agg [.lit (.string []),.lit (.string [115,101,116]),.lit (.string [97,100,100]),.lit (.string [109,117,108]),.lit (.string [97,112,97,114,116]),.lit (.string [100,111]),.lit (.string [114,111,117,110,100]),.lit (.string [98,97,99,107]),.lit (.string [115,104,111,119])]:DataW H)=DataW.agg (xs.map (·.1)):=h1
  injection h2 with h3;exact h3.symm
 have key:∀(i:Nat) (bytes:List UInt8),i<9→(xs.map (·.1))[i]? =some (.lit (.string bytes))→cs[i]? =some (.string ⟨bytes.toArray⟩):=fun i bytes hi hb=>by
  rw[List.getElem?_map]at hb;cases hy:xs[i]? with
  |none=>rw[hy]at hb;cases hb
  |some y=>
   rw[hy]at hb;have h1:=hf i hi
   rw[hy]at h1;obtain⟨s,e1,e2,_⟩:=DataW.trod_string Tryz.underlying9 h1;rw[e2]at hb;have h3:s.data.toList=bytes:=by simp at hb;exact hb
   have h4:=congrArg (·[0]?) e1;simp[List.getElem?_drop]at h4;rw[h4,←h3]
 rw[hm]at key;apply List.ext_getElem?;intro i;by_cases hi:i<9
 ·rcases(show i=0∨i=1∨i=2∨i=3∨i=4∨i=5∨i=6∨i=7∨i=8 by omega)with rfl|rfl|rfl|rfl|rfl|rfl|rfl|rfl|rfl;all_goals(rw[key _ _ hi rfl];rfl)
 ·rw[List.getElem?_eq_none (by omega),List.getElem?_eq_none (by show 9≤i;omega)]
theorem MQ {W : World} (h : W.var? Tryz.prog "loop.example/selvedge/impl.dskWords" = some wordsA) : Dw W := fun k h1 h8 => by
 unfold World.var? at h;rw[kW]at h;simp only[Option.bind_some]at h;cases hb:W.heap[0]? with
 |none=>rw[hb]at h;simp at h
 |some o=>
  rw[hb]at h;cases o with
  |cells c t fr=>
   simp at h;subst h;rw[cell_of_row W 0 k _ _ _ hb];rcases(show k=1∨k=2∨k=3∨k=4∨k=5∨k=6∨k=7∨k=8 by omega)with rfl|rfl|rfl|rfl|rfl|rfl|rfl|rfl<;>rfl
  |_=>simp at h
theorem GE {W : World} {a b c : String × DataW Unit} {r : List (String × DataW Unit)} (h : laidMet Tryz.prog (a :: b :: c :: ("loop.example/selvedge/impl.dskWords", Rows.laid_loop_example_selvedge_impl_dskWords) :: r) W) : W.var? Tryz.prog "loop.example/selvedge/impl.dskWords" = some wordsA := by
 have h1:=h.tail.tail.tail;obtain⟨ps,⟨g1,t1,cs1,fuel1,p1,q1,hg1,ht1,hv1,hd1,_,_⟩,_⟩:=h1;obtain rfl:=Option.some.inj (kW.symm.trans hg1);obtain rfl:=Option.some.inj (rG.symm.trans ht1);rw[hv1];congr 1;exact Array.toList_inj.1 (vH hd1)
end Go.Proofs.YtkcmamepoplcdaaGreatDoor
