/-
  The walk of FnDskText: whatever the codes, it comes out true, and nothing that was there is turned.
-/
import Derived.Test.YtkcmamepoplcdaaGreatDoorTbd
import Derived.Stop.LaidErr
import Derived.LaidMore
import Derived.OpenShut
import Derived.ChangeArms
set_option maxHeartbeats 16000000
set_option maxRecDepth 100000
namespace Go.Proofs.YtkcmamepoplcdaaGreatDoor
open Go.Shelf Go.RowKit
set_option linter.unusedVariables false
set_option linter.unusedSimpArgs false
theorem wW {w:World} {a:Option Addr} {n cap:Nat} {f:Nat→T} (h:Rd w a n cap f):∃L:List T,n=L.length∧Rd w a L.length cap (lf L):=by
 have hl:((List.range n).map f).length=n:=by simp
 have ha:∀i,i<n→lf ((List.range n).map f) i=f i:=fun i hi=>nD (by rw[List.getElem?_map,List.getElem?_range hi];rfl);refine⟨(List.range n).map f,hl.symm,?_⟩;rw[hl];obtain⟨h1,h2,h3⟩:=h;refine⟨h1,h2,h3.imp id (fun⟨b,off,e,hlt,hc⟩=>⟨b,off,e,hlt,fun i hi=>by rw[ha i hi];exact hc i hi⟩)⟩
theorem sP:eL 3 2 0 1 0 (lf [])=[109,117,108,32,67,32,65,32,66]:=by decide+kernel
theorem jZ (w:World) (a0:Option Addr) (len0 cap0:Nat) (a1:Option Addr) (len1 cap1:Nat) (s0:uA w a0 len0 cap0) (s1:uA w a1 len1 cap1) (hM:rH w) (hE:Er w) (hT:Tb w) (hD:Dw w):Calls Tryz.prog 5 #[.slice a0 len0 cap0,.slice a1 len1 cap1] w fun e w'=>e= .returned (.bool true)∧Below w.heap.size w w':=by
 by_cases c0:(1048576:Int)<(len0:Int)
 ·go_enter Tryz.func5,Tryz.ntmps5;go_wp2;go_ret;exact⟨rfl,aC _ _⟩
 by_cases c1:(1048576:Int)<(len1:Int)
 ·go_enter Tryz.func5,Tryz.ntmps5;go_wp2;go_ret;exact⟨rfl,aC _ _⟩
 have HM:=aA hM;have HE:=aA hE
 have HT:=aA hT;have HD:=aA hD
 clear hM hE hT hD;go_enter Tryz.func5,Tryz.ntmps5;go_wp2_with fail;refine(mW w a0 len0 cap0 s0).mono ?_;rintro e wd ⟨k,to,a,b,pa,n,cap,f,rfl,hR,hn5,hbd⟩;obtain⟨p,rfl,hpp⟩:=wW hR;have bx:=aG wd (.cells #[.int .i64 k,.int .i64 to,.int .i64 a,.int .i64 b,.slice pa p.length cap] 24)
 have HP:=aA (hpp.below bx);have Z:=aA (aD hbd bx)
 have S1:=aA (s1.below (aD hbd bx));have X1:=aA (V5.box wd 24 (.int .i64 k) (.int .i64 to) (.int .i64 a) (.int .i64 b) (.slice pa p.length cap))
 clear hR hpp hbd bx s0 s1;obtain⟨S,hS⟩:∃S,eL k to a b p.length (lf p)=S:=⟨_,rfl⟩
 have HS:=aA hS;have hSl:=sH k to a b p.length (lf p)
 have HDI:=aA (fun u hb=>fF k to a b pa p.length cap (lf p) u hb);have HDS:=aA (fun u hb=>eK k to a b pa p.length cap (lf p) u hb)
 rw[hS]at HDI HDS hSl;clear hS;obtain⟨⟨x0,x1,x2,x3,x4⟩,xz⟩:=X1.out;go_wp2_with fail;clear x0 x1 x2 x3 x4 xz;generalize wd.alloc (.cells #[.int .i64 k,.int .i64 to,.int .i64 a,.int .i64 b,.slice pa p.length cap] 24)=u0 at Z HP S1 X1⊢;generalize wd.heap.size=E5 at X1⊢;refine(HDI.out _ HP.out (HT.out.below Z.out) (HD.out.below Z.out)).mono ?_;rintro e u1 ⟨rfl,hb⟩;have HP1:=aA (HP.out.below hb)
 have Z1:=aA (aD Z.out hb);have S2:=aA (S1.out.below hb)
 have X2:=aA (X1.out.below hb);clear hb HP Z S1 X1;go_wp2_with fail;refine(mV u1 a1 len1 cap1 S2.out).mono ?_;rintro e u2 ⟨t,rfl,htl,hb⟩;have HP2:=aA (HP1.out.below hb)
 have Z2:=aA (aD Z1.out hb);have X3:=aA (X2.out.below hb)
 clear hb HP1 Z1 S2 X2;have HMT:Hid ((fX t).2=true→(fX t).1.txt=t):=aA (fun h=>(qG h).1)
 obtain⟨R,hR⟩:∃R,fX t=R:=⟨_,rfl⟩
 obtain⟨⟨mk,mt,ma,mb,mP⟩,ok⟩:=R
 have HRI:Hid (∀u,Below w.heap.size w u→Calls Tryz.prog 9 #[.string ⟨t.toArray⟩] u fun e w'=>∃pa cap,e= .returned (.tuple #[.agg #[.int .i64 mk,.int .i64 mt,.int .i64 ma,.int .i64 mb,.slice pa mP.length cap],.bool ok])∧Below u.heap.size u w'∧iH u.heap.size w' pa cap mP):=aA (fun u hb=>by
  have q:=mX t (by omega) u (HM.out.below hb) (HE.out.below hb) (HT.out.below hb) (HD.out.below hb);unfold dE at q;rw[hR]at q
  exact q)
 have HRS:Hid (∀u,Calls Tryz.prog 8 #[.string ⟨t.toArray⟩] u fun e w'=>∃pa cap,e= .returned (.tuple #[.agg #[.int .i64 mk,.int .i64 mt,.int .i64 ma,.int .i64 mb,.slice pa mP.length cap],.bool ok])∧Below u.heap.size u w'∧iH u.heap.size w' pa cap mP):=aA (fun u=>by
  have q:=rT t (by omega) u;unfold dE at q;rw[hR]at q
  exact q)
 rw[hR]at HMT;simp only at HMT;clear hR;go_wp2_with fail;refine(HRI.out _ Z2.out).mono ?_;rintro e u3 ⟨pm,cm,rfl,hb,hout⟩;have bx:=aG u3 (.cells #[.int .i64 mk,.int .i64 mt,.int .i64 ma,.int .i64 mb,.slice pm mP.length cm] 24)
 have hb2:=aD hb bx;have HP3:=aA (HP2.out.below hb2)
 have Z3:=aA (aD Z2.out hb2);have X4:=aA (X3.out.below hb2)
 have M3:=aA (hout.1.below bx);have Y3:=aA (V5.box u3 24 (.int .i64 mk) (.int .i64 mt) (.int .i64 ma) (.int .i64 mb) (.slice pm mP.length cm))
 clear hb hb2 bx hout HP2 Z2 X3 HRI;go_wp2_with fail;generalize u3.alloc (.cells #[.int .i64 mk,.int .i64 mt,.int .i64 ma,.int .i64 mb,.slice pm mP.length cm] 24)=v3 at HP3 Z3 X4 M3 Y3⊢;generalize u3.heap.size=E8 at Y3⊢;refine(HRS.out _).mono ?_;rintro e u4 ⟨pq,cq,rfl,hb,hout⟩;have bx:=aG u4 (.cells #[.int .i64 mk,.int .i64 mt,.int .i64 ma,.int .i64 mb,.slice pq mP.length cq] 24)
 have hb2:=aD hb bx;have HP4:=aA (HP3.out.below hb2)
 have Z4:=aA (aD Z3.out hb2);have X5:=aA (X4.out.below hb2)
 have M4':=aA (M3.out.below hb2);have Y4:=aA (Y3.out.below hb2)
 have N4:=aA (hout.1.below bx);have W4:=aA (V5.box u4 24 (.int .i64 mk) (.int .i64 mt) (.int .i64 ma) (.int .i64 mb) (.slice pq mP.length cq))
 clear hb hb2 bx hout HP3 Z3 X4 M3 Y3 HRS;obtain⟨⟨x0,x1,x2,x3,x4⟩,xz⟩:=X5.out;go_wp2_with fail;clear x0 x1 x2 x3 x4 xz;generalize u4.alloc (.cells #[.int .i64 mk,.int .i64 mt,.int .i64 ma,.int .i64 mb,.slice pq mP.length cq] 24)=v4 at HP4 Z4 X5 M4' Y4 N4 W4⊢;generalize u4.heap.size=E10 at W4⊢;refine(HDS.out _ HP4.out).mono ?_;rintro e u5 ⟨rfl,hb⟩;have HP5:=aA (HP4.out.below hb)
 have Z5:=aA (aD Z4.out hb);have X6:=aA (X5.out.below hb)
 have M5:=aA (M4'.out.below hb);have Y5:=aA (Y4.out.below hb)
 have N5:=aA (N4.out.below hb);have W5':=aA (W4.out.below hb)
 clear hb HP4 Z4 X5 M4' Y4 N4 W4 HDS;obtain⟨⟨y0,y1,y2,y3,y4⟩,yz⟩:=Y5.out;obtain⟨⟨z0,z1,z2,z3,z4⟩,zz⟩:=W5'.out;have hSS:(S==S)=true:=beq_self_eq_true _
 have hkk:(ok !=ok)=false:=by simp
 go_wp2_with fail;clear y0 y1 y2 y3 y4 yz z0 z1 z2 z3 z4 zz;refine(lO _ _ _ _ _ _ _ _ _ M5.out N5.out).mono ?_;rw[eX];rintro e u6 ⟨rfl,hb⟩;have HP6:=aA (HP5.out.below hb)
 have Z6:=aA (aD Z5.out hb);have X7:=aA (X6.out.below hb)
 have M6:=aA (M5.out.below hb);have Y6:=aA (Y5.out.below hb)
 clear hb HP5 Z5 X6 M5 Y5 N5 W5';have HDM:=aA (fF mk mt ma mb pm mP.length cm (lf mP) _ M6.out (HT.out.below Z6.out) (HD.out.below Z6.out))
 obtain⟨X,hX⟩:∃X,eL mk mt ma mb mP.length (lf mP)=X:=⟨_,rfl⟩
 have HXX:Hid ((⟨mk,mt,ma,mb,mP⟩:eY).txt=X):=aA hX;rw[hX]at HDM;clear hX
 have FIN:Hid (∀u,Below w.heap.size w u→Rd u pa p.length cap (lf p)→V5 u E5 (.int .i64 k) (.int .i64 to) (.int .i64 a) (.int .i64 b) (.slice pa p.length cap)→S≠[]→Calls Tryz.prog 9 #[.string ⟨S.toArray⟩] u fun e w'=>∃pa cap,e= .returned (.tuple #[.agg #[.int .i64 k,.int .i64 to,.int .i64 a,.int .i64 b,.slice pa p.length cap],.bool true])∧Below u.heap.size u w'∧iH u.heap.size w' pa cap p):=aA (fun u hb _ _ hne=>by
  have q:=mX S (by omega) u (HM.out.below hb) (HE.out.below hb) (HT.out.below hb) (HD.out.below hb);unfold dE at q;rw[lK (l:=⟨k,to,a,b,p⟩) ⟨HS.out,hne⟩]at q
  exact q)
 have HMU:=aA (fun(u:World) (hb:Below w.heap.size w u)=>fF 3 2 0 1 none 0 0 (lf []) u (fL 0 u).1 (HT.out.below hb) (HD.out.below hb));rw[sP]at HMU;cases ok
 ·skip
  by_cases hS0:S=[]
  ·have hSb:S.isEmpty=true:=by rw[hS0];rfl
   have hSc:(S==[])=true:=by rw[hS0];rfl
   clear hS0;go_wp2_with fail;refine(HMU.out _ Z6.out).mono ?_;rintro e u8 ⟨rfl,hb⟩;have Z8:=aA (aD Z6.out hb)
   clear hb;go_wp2;go_ret;exact⟨rfl,Z8.out⟩
  ·have hSb:S.isEmpty=false:=by cases S<;>simp at hS0⊢
   have hSc:(S==[])=false:=beq_eq_false_iff_ne.2 hS0;have HRD:=aA (FIN.out _ Z6.out HP6.out X7.out hS0)
   clear hS0;go_wp2_with fail;refine HRD.out.mono ?_;rintro e u8 ⟨pb,cb,rfl,hb,hout⟩;have bx:=aG u8 (.cells #[.int .i64 k,.int .i64 to,.int .i64 a,.int .i64 b,.slice pb p.length cb] 24)
   have hb2:=aD hb bx;have P8:=aA (HP6.out.below hb2)
   have Z8:=aA (aD Z6.out hb2);have X8:=aA (X7.out.below hb2)
   have B8:=aA (hout.1.below bx);have Y8:=aA (V5.box u8 24 (.int .i64 k) (.int .i64 to) (.int .i64 a) (.int .i64 b) (.slice pb p.length cb))
   clear hb hb2 bx hout HRD;obtain⟨⟨y0,y1,y2,y3,y4⟩,yz⟩:=Y8.out;obtain⟨⟨x0,x1,x2,x3,x4⟩,xz⟩:=X8.out;have hkq:(k==k)=true:=beq_self_eq_true _
   have htq:(to==to)=true:=beq_self_eq_true _;have haq:(a==a)=true:=beq_self_eq_true _
   have hbq:(b==b)=true:=beq_self_eq_true _;go_wp2_with fail;refine(lO _ _ _ _ _ _ _ _ _ B8.out P8.out).mono ?_;rw[eX];rintro e u9 ⟨rfl,hb⟩;have Z9:=aA (aD Z8.out hb)
   clear hb;go_wp2;go_ret;exact⟨rfl,Z9.out⟩
 ·have hXt:(X==t)=true:=by rw[←HXX.out,HMT.out rfl];exact beq_self_eq_true _
  obtain⟨⟨y0,y1,y2,y3,y4⟩,yz⟩:=Y6.out;go_wp2_with fail;clear y0 y1 y2 y3 y4 yz;refine HDM.out.mono ?_;rintro e u7 ⟨rfl,hb⟩;have HP7:=aA (HP6.out.below hb)
  have Z7:=aA (aD Z6.out hb);have X8':=aA (X7.out.below hb)
  clear hb HP6 Z6 X7 M6 Y6;by_cases hS0:S=[]
  ·have hSb:S.isEmpty=true:=by rw[hS0];rfl
   have hSc:(S==[])=true:=by rw[hS0];rfl
   clear hS0;go_wp2_with fail;refine(HMU.out _ Z7.out).mono ?_;rintro e u8 ⟨rfl,hb⟩;have Z8:=aA (aD Z7.out hb)
   clear hb;go_wp2;go_ret;exact⟨rfl,Z8.out⟩
  ·have hSb:S.isEmpty=false:=by cases S<;>simp at hS0⊢
   have hSc:(S==[])=false:=beq_eq_false_iff_ne.2 hS0;have HRD:=aA (FIN.out _ Z7.out HP7.out X8'.out hS0)
   clear hS0;go_wp2_with fail;refine HRD.out.mono ?_;rintro e u8 ⟨pb,cb,rfl,hb,hout⟩;have bx:=aG u8 (.cells #[.int .i64 k,.int .i64 to,.int .i64 a,.int .i64 b,.slice pb p.length cb] 24)
   have hb2:=aD hb bx;have P8:=aA (HP7.out.below hb2)
   have Z8:=aA (aD Z7.out hb2);have X8:=aA (X8'.out.below hb2)
   have B8:=aA (hout.1.below bx);have Y8:=aA (V5.box u8 24 (.int .i64 k) (.int .i64 to) (.int .i64 a) (.int .i64 b) (.slice pb p.length cb))
   clear hb hb2 bx hout HRD;obtain⟨⟨y0,y1,y2,y3,y4⟩,yz⟩:=Y8.out;obtain⟨⟨x0,x1,x2,x3,x4⟩,xz⟩:=X8.out;have hkq:(k==k)=true:=beq_self_eq_true _
   have htq:(to==to)=true:=beq_self_eq_true _;have haq:(a==a)=true:=beq_self_eq_true _
   have hbq:(b==b)=true:=beq_self_eq_true _;go_wp2_with fail;refine(lO _ _ _ _ _ _ _ _ _ B8.out P8.out).mono ?_;rw[eX];rintro e u9 ⟨rfl,hb⟩;have Z9:=aA (aD Z8.out hb)
   clear hb;go_wp2;go_ret;exact⟨rfl,Z9.out⟩
end Go.Proofs.YtkcmamepoplcdaaGreatDoor
namespace Go.Proofs.YtkcmamepoplcdaaGreatDoor
open Go.RowKit
set_option linter.unusedVariables false
theorem wL : Tryz.prog.globalNamed "strconv.ErrRange" = some 8 := by kernel_rfl
theorem uR : Tryz.prog.globalNamed "strconv.ErrSyntax" = some 7 := by kernel_rfl
theorem uQ:(Tryz.prog.globals[8]?).map (·.type)=some 97:=by kernel_rfl
theorem rX:(Tryz.prog.globals[7]?).map (·.type)=some 97:=by kernel_rfl
theorem pR : "*" ++ "errors.errorString" = "*errors.errorString" := by decide
theorem tF (u : TypeId) (h : Tryz.prog.typeName? 3 u = some "*errors.errorString") : u = 225 :=
 typeName_ptr_named (nm := "errors.errorString") (by rw [pR]; kernel_rfl) (by kernel_rfl) (by decide) u (by rw [pR]; exact h)
theorem yA {W : World} {a b c : String × DataW Unit} {r : List (String × DataW Unit)} (h : laidMet Tryz.prog (a :: b :: c :: ("strconv.ErrRange", Rows.laid_strconv_ErrRange) :: ("strconv.ErrSyntax", Rows.laid_strconv_ErrSyntax) :: r) W) : Er W := by
 have h1:=h.tail.tail.tail;have h2:=h1.tail
 obtain⟨a1,s1,v1, -, -, -⟩:=laid_sentinel h1 wL uQ Tryz.underlying97 tF Tryz.underlying225 Tryz.underlying227 rfl rfl Tryz.underlying9 (by kernel_rfl) (by kernel_rfl);obtain⟨a2,s2,v2, -, -, -⟩:=laid_sentinel h2 uR rX Tryz.underlying97 tF Tryz.underlying225 Tryz.underlying227 rfl rfl Tryz.underlying9 (by kernel_rfl) (by kernel_rfl);exact⟨⟨_,_,v2⟩,⟨_,_,v1⟩⟩
theorem qX {W : World} {rest : List (String × DataW Unit)} {n0 n1 : String} {d0 d1 : DataW Unit}
    (h : laidMet Tryz.prog ((n0, d0) :: (n1, d1) :: ("internal/strconv.uint64pow10", Rows.laid_internal_strconv_uint64pow10) :: rest) W) : Tb W := by
  have e:(Rows.laid_internal_strconv_uint64pow10:DataW Unit)=Lib.tabData .u64 Lib.pow10Tab:=by kernel_rfl
  rw[e]at h
  obtain⟨ps,⟨_,_,_,_,_,_,_,_,_,_,⟨_,_,_,_,_,_,_,_,_,_,⟨g',t',cs,fuel,p,q,hg',ht',hvar,hd,_,_⟩,_⟩,_⟩,_⟩:=h
  obtain rfl := Option.some.inj ((show Tryz.prog.globalNamed "internal/strconv.uint64pow10" = some 2 by kernel_rfl).symm.trans hg')
  obtain rfl:=Option.some.inj ((show(Tryz.prog.globals[2]?).map (·.type)=some 175 by kernel_rfl).symm.trans ht')
  show Lib.TabIs _ _ _ _ _
  unfold Lib.TabIs
  rw[hvar,←Lib.cells_of_tab Tryz.underlying175 Tryz.underlying144 (by kernel_rfl) (by kernel_rfl) hd]
set_option linter.unusedSimpArgs false
theorem gF : Tryz.prog.globalNamed "loop.example/selvedge/impl.dskWords" = some 0 := by kernel_rfl
theorem lC:(Tryz.prog.globals[0]?).map (·.type)=some 67:=by kernel_rfl
def wordsA:Array Value:=#[.string ⟨#[]⟩,.string ⟨#[115,101,116]⟩,.string ⟨#[97,100,100]⟩,.string ⟨#[109,117,108]⟩,.string ⟨#[97,112,97,114,116]⟩,.string ⟨#[100,111]⟩,.string ⟨#[114,111,117,110,100]⟩,.string ⟨#[98,97,99,107]⟩,.string ⟨#[115,104,111,119]⟩]
theorem nV {H:Type} {enc:TypeId×Value→H} {w:World} {base:Nat} {sp:Nat→Bool} {held:Bool} {fuel:Nat} {cs:List Value} {p:List MemPlace} (h:DataW.trod enc Tryz.prog w base sp held fuel 67 cs=some (Rows.laid_loop_example_selvedge_impl_dskWords,p)):cs=wordsA.toList:=by
 obtain⟨xs,m,hk,hx,hl,hlen,hf⟩:=DataW.trod_array Tryz.underlying67 h;have hc9:Tryz.prog.cellsOf 67=9:=by kernel_rfl
 have hc1:Tryz.prog.cellsOf 9=1:=by kernel_rfl
 rw[hc9]at hl;simp only[hc1,Nat.mul_one]at hf;have hm:xs.map (·.1)=[.lit (.string []),.lit (.string [115,101,116]),.lit (.string [97,100,100]),.lit (.string [109,117,108]),.lit (.string [97,112,97,114,116]),.lit (.string [100,111]),.lit (.string [114,111,117,110,100]),.lit (.string [98,97,99,107]),.lit (.string [115,104,111,119])]:=by
  have h1:=congrArg Prod.fst hx;have h2:(DataW.agg [.lit (.string []),.lit (.string [115,101,116]),.lit (.string [97,100,100]),.lit (.string [109,117,108]),.lit (.string [97,112,97,114,116]),.lit (.string [100,111]),.lit (.string [114,111,117,110,100]),.lit (.string [98,97,99,107]),.lit (.string [115,104,111,119])]:DataW H)=DataW.agg (xs.map (·.1)):=h1
  injection h2 with h3;exact h3.symm
 have key:∀(i:Nat) (bytes:List UInt8),i<9→(xs.map (·.1))[i]? =some (.lit (.string bytes))→cs[i]? =some (.string ⟨bytes.toArray⟩):=fun i bytes hi hb=>by
  rw[List.getElem?_map]at hb;cases hy:xs[i]? with
  |none=>rw[hy]at hb;cases hb
  |some y=>
   rw[hy]at hb;have h1:=hf i hi
   rw[hy]at h1;obtain⟨s,e1,e2,_⟩:=DataW.trod_string Tryz.underlying9 h1;rw[e2]at hb;have h3:s.data.toList=bytes:=by simp at hb;exact hb
   have h4:=congrArg (·[0]?) e1;simp[List.getElem?_drop]at h4;rw[h4,←h3]
 rw[hm]at key;apply List.ext_getElem?;intro i;by_cases hi:i<9
 ·rcases(show i=0∨i=1∨i=2∨i=3∨i=4∨i=5∨i=6∨i=7∨i=8 by omega)with rfl|rfl|rfl|rfl|rfl|rfl|rfl|rfl|rfl;all_goals(rw[key _ _ hi rfl];rfl)
 ·rw[List.getElem?_eq_none (by omega),List.getElem?_eq_none (by show 9≤i;omega)]
theorem xZ {W : World} (h : W.var? Tryz.prog "loop.example/selvedge/impl.dskWords" = some wordsA) : Dw W := fun k h1 h8 => by
 unfold World.var? at h;rw[gF]at h;simp only[Option.bind_some]at h;cases hb:W.heap[0]? with
 |none=>rw[hb]at h;simp at h
 |some o=>
  rw[hb]at h;cases o with
  |cells c t fr=>
   simp at h;subst h;rw[cell_of_row W 0 k _ _ _ hb];rcases(show k=1∨k=2∨k=3∨k=4∨k=5∨k=6∨k=7∨k=8 by omega)with rfl|rfl|rfl|rfl|rfl|rfl|rfl|rfl<;>rfl
  |_=>simp at h
theorem uN {W : World} {a b c : String × DataW Unit} {r : List (String × DataW Unit)} (h : laidMet Tryz.prog (a :: b :: c :: ("loop.example/selvedge/impl.dskWords", Rows.laid_loop_example_selvedge_impl_dskWords) :: r) W) : W.var? Tryz.prog "loop.example/selvedge/impl.dskWords" = some wordsA := by
 have h1:=h.tail.tail.tail;obtain⟨ps,⟨g1,t1,cs1,fuel1,p1,q1,hg1,ht1,hv1,hd1,_,_⟩,_⟩:=h1;obtain rfl:=Option.some.inj (gF.symm.trans hg1);obtain rfl:=Option.some.inj (lC.symm.trans ht1);rw[hv1];congr 1;exact Array.toList_inj.1 (nV hd1)
end Go.Proofs.YtkcmamepoplcdaaGreatDoor
