/-
  Turning an operator round, and back: the model, and what the program answers.
-/
import Derived.Test.YtkcmamepoplcdaaGreatDoorXat
set_option maxHeartbeats 16000000
set_option maxRecDepth 100000
namespace Go.Proofs.YtkcmamepoplcdaaGreatDoor
open Go.RowKit Go.Maps
set_option linter.unusedVariables false
theorem GL (w:World) (lo:Nat) (v:Value) (K:List T) (a b:T) (ho:w.ownsRow lo 79 5 v K.length (aG K)) (hlo:lo≤w.heap.size) (hl:K.length≤400) (hK:aX K) (h1:a.m.ok=true∧0≤a.c∧a.c≤100) (h2:b.m.ok=true∧b.c=1):Calls Tryz.prog 106 #[v,.int .i64 a.c,.agg #[.int .i64 a.m.x,.int .i64 a.m.y,.int .i64 a.m.d,.int .i64 a.m.e],.agg #[.int .i64 b.m.x,.int .i64 b.m.y,.int .i64 b.m.d,.int .i64 b.m.e]] w fun r w'=>∃v',r= .returned (.tuple #[v',.bool (fZ (bR K a b)).2])∧Below w.heap.size w w'∧w'.ownsRow lo 79 5 v' (fZ (bR K a b)).1.length (aG (fZ (bR K a b)).1):=by
 obtain⟨p,cap,rfl,hout⟩:=aO ho (by omega);have HR:=aA hout.1
 clear ho hout;have h2':b.m.ok=true∧0≤b.c∧b.c≤100:=⟨h2.1,by omega,by omega⟩
 have hm:∀u:World,Calls Tryz.prog 137 #[.agg #[.int .i64 a.c,.int .i64 a.m.x,.int .i64 a.m.y,.int .i64 a.m.d,.int .i64 a.m.e],.agg #[.int .i64 1,.int .i64 b.m.x,.int .i64 b.m.y,.int .i64 b.m.d,.int .i64 b.m.e]] u fun e w'=>∃v,e= .returned (.tuple #[v,.bool (a.m.sum b.m).ok])∧Below u.heap.size u w'∧w'.ownsRow u.heap.size 79 5 v (jS a b).length (aG (jS a b)):=fun u=>by
  have:=NZ u a b h1 h2'
  rwa[h2.2]at this
 have hz:=aA (aC (aF w (.cells #[.int .i64 a.m.x,.int .i64 a.m.y,.int .i64 a.m.d,.int .i64 a.m.e] 77)) (aF _ (.cells #[.int .i64 b.m.x,.int .i64 b.m.y,.int .i64 b.m.d,.int .i64 b.m.e] 77)));have hsm:=pN h1 h2'
 cases hok:(a.m.sum b.m).ok
 ·have e1:bR K a b=none:=if_neg (fun h=>by rw[hok]at h;cases h.1);rw[e1];rw[hok]at hm;go_enter Tryz.func106,Tryz.ntmps106;go_wp2_with fail;refine(hm _).mono ?_;rintro r w1 ⟨vx,rfl,hb1,_⟩;have HB1:=aA (aC hz.out hb1)
  clear hb1;go_wp2;refine bC (results_tmp2 rfl _ _ _) rfl ?_;exact⟨_,rfl,HB1.out.alloc HB1.out.size _,aQ w1 lo (jW hlo HB1.out.size)⟩
 ·have e0:jS a b=aU a b:=if_pos hok;rw[e0]at hm hsm;rw[hok]at hm;have hTwo:kZ a b (a.m.sum b.m):=⟨h1.1,h2.1,hok,rfl,rfl,rfl,rfl,h1.2,h2'.2⟩
  have hpf:=(fP hTwo).1;by_cases h4:(dG K (aU a b)).length≤400
  ·have e1:bR K a b=some (dG K (aU a b)):=if_pos ⟨hok,h4⟩;have h4':((dG K (aU a b)).length:Int)≤400:=by omega
   rw[e1];go_enter Tryz.func106,Tryz.ntmps106;go_wp2_with fail;refine(hm _).mono ?_;rintro r w1 ⟨vx,rfl,hb1,hx⟩;obtain⟨px,cx,rfl,hox⟩:=aO hx (by omega);have HB1:=aA (aC hz.out hb1)
   have HX:=aA hox.1;clear hb1 hx hox;go_wp2_with fail;refine(oS _ _ _ _ _ _ _ (lf K) (lf (aU a b)) (HR.out.below HB1.out) HX.out (by omega) (dJ hK).at (dJ hpf).at).mono ?_;rintro r w2 ⟨v2,rfl,hb2,hown⟩;change w2.ownsRow w1.heap.size 79 5 v2 (dG K (aU a b)).length (aG (dG K (aU a b)))at hown;obtain⟨py,cy,rfl,_⟩:=aO hown (by omega);have HB2:=aA (aC HB1.out hb2)
   have HO:=aA (bO hown (jW hlo HB1.out.size));clear hb2 hown;go_wp2;refine bC (results_tmp2 rfl _ _ _) rfl ?_;exact⟨_,rfl,HB2.out,HO.out⟩
  ·have e1:bR K a b=none:=if_neg (fun h=>h4 h.2);have h4':(400:Int)<((dG K (aU a b)).length:Int):=by omega
   have hal:(dG K (aU a b)).length≤2000:=by have:=lC (lf K) K.length (lf (aU a b)) (aU a b).length 0 0;unfold dG;omega
   rw[e1];go_enter Tryz.func106,Tryz.ntmps106;go_wp2_with fail;refine(hm _).mono ?_;rintro r w1 ⟨vx,rfl,hb1,hx⟩;obtain⟨px,cx,rfl,hox⟩:=aO hx (by omega);have HB1:=aA (aC hz.out hb1)
   have HX:=aA hox.1;clear hb1 hx hox;go_wp2_with fail;refine(oS _ _ _ _ _ _ _ (lf K) (lf (aU a b)) (HR.out.below HB1.out) HX.out (by omega) (dJ hK).at (dJ hpf).at).mono ?_;rintro r w2 ⟨v2,rfl,hb2,hown⟩;change w2.ownsRow w1.heap.size 79 5 v2 (dG K (aU a b)).length (aG (dG K (aU a b)))at hown;obtain⟨py,cy,rfl,_⟩:=aO hown (by omega);have HB2:=aA (aC HB1.out hb2)
   clear hb2 hown;go_wp2;refine bC (results_tmp2 rfl _ _ _) rfl ?_;exact⟨_,rfl,HB2.out.alloc HB2.out.size _,aQ w2 lo (jW hlo HB2.out.size)⟩
abbrev P5 (pb o b:Nat) (t:T) (u:World):Prop:=u.cell? ⟨pb,o,none⟩=some (.int .i64 t.c)∧u.cell? ⟨b,0,none⟩=some (.int .i64 t.m.x)∧u.cell? ⟨b,1,none⟩=some (.int .i64 t.m.y)∧u.cell? ⟨b,2,none⟩=some (.int .i64 t.m.d)∧u.cell? ⟨b,3,none⟩=some (.int .i64 t.m.e)
theorem P5.below {pb o b:Nat} {t:T} {u u':World} (h:P5 pb o b t u) (hb:Below u.heap.size u u') (h1:pb<u.heap.size) (h2:b<u.heap.size):P5 pb o b t u':=
 ⟨(hb.cell (p:=⟨pb,o,none⟩) h1).trans h.1,(hb.cell (p:=⟨b,0,none⟩) h2).trans h.2.1,(hb.cell (p:=⟨b,1,none⟩) h2).trans h.2.2.1,(hb.cell (p:=⟨b,2,none⟩) h2).trans h.2.2.2.1,(hb.cell (p:=⟨b,3,none⟩) h2).trans h.2.2.2.2⟩
def cB (f:Nat→T) (n:Nat):List T×Bool:=mO eO f n
theorem nR (f:Nat→T) (n:Nat):(cB f n).1.length≤400:=yF _ _ _
theorem DK (w:World) (a:Option Addr) (n cap:Nat) (f:Nat→T) (ha:Rd w a n cap f):Calls Tryz.prog 81 #[.slice a n cap] w fun r w'=>∃a' cap',r= .returned (.tuple #[.slice a' (cB f n).1.length cap',.bool (cB f n).2])∧Below w.heap.size w w'∧iJ w.heap.size w' a' cap' (cB f n).1:=by
 have hc:=yE w a n cap f 119 #[] eO (fun _=>True) (enters_of Tryz.func119 (by kernel_rfl) rfl) JD (fun _ _ _ _ _ _=>trivial) (fun _ _ _=>trivial) trivial ha;change Calls Tryz.prog 118 #[.slice a n cap,.func (.func 119) #[] #[]] w fun r w'=>∃v,r= .returned (.tuple #[v,.bool (cB f n).2])∧Below w.heap.size w w'∧w'.ownsRow w.heap.size 79 5 v (cB f n).1.length (aG (cB f n).1)at hc;have hlen:=nR f n
 generalize cB f n=V at hc hlen⊢;go_enter Tryz.func81,Tryz.ntmps81;go_wp2_with (go_at_call 118;refine hc.mono ?_;rintro r w1 ⟨v,rfl,hb1,ho1⟩);refine bC (results_tmp2 rfl _ _ _) rfl ?_;obtain⟨a',cap',rfl,hout⟩:=aO ho1 (by omega);exact⟨a',cap',rfl,hb1,hout⟩
theorem DL (w:World) (a:Option Addr) (n cap:Nat) (f:Nat→T) (h:Rd w a n cap f):Calls Tryz.prog 73 #[.slice a n cap] w fun r w'=>∃v,r= .returned (.tuple #[v,.bool (cB f n).2])∧Below w.heap.size w w'∧w'.ownsRow w.heap.size 79 5 v (cB f n).1.length (aG (cB f n).1):=by
 have HA:=aA h;have hn:(n:Int)≤140737488351232:=by have:=h.2.1;omega
 have hO0:=aQ w w.heap.size (Nat.le_refl _);have hB0:=aF w (.cells #[] 79)
 clear h;cases hpa:aH n f
 ·have e1:cB f n=([],false):=by simp[cB,mO,hpa]
  rw[e1];go_enter Tryz.func73,Tryz.ntmps73;go_wp2_with (go_at_call 29;refine(aY _ _ _ _ f (HA.out.below hB0)).mono ?_;rw[hpa];rintro r w1 ⟨rfl,hb1⟩;have HB1:=aA (aC hB0 hb1);have HO1:=aA (aK hO0 hb1);clear hb1);go_loopw [4,5,6] (fun v ok ii wr=>ok= .bool false∧ii= .int .i64 0∧wr.ownsRow w.heap.size 79 5 v 0 (aG [])∧Below w.heap.size w wr) (fun _ _ _ _=>0);case atStart=>exact⟨rfl,rfl,HO1.out,HB1.out⟩
  case round=>
   obtain⟨rfl,rfl,hown,hbl⟩:=hrel;by_cases h0:n=0
   ·subst h0;go_wp2;refine bC (results_tmp2 rfl _ _ _) rfl ?_;exact⟨_,rfl,hbl,hown⟩
   ·have hpos:(0:Int)<(n:Int):=by omega
    go_wp2;refine bC (results_tmp2 rfl _ _ _) rfl ?_;exact⟨_,rfl,hbl,hown⟩
 ·have e1:cB f n=fZ (dF eO f n):=by simp[cB,mO,hpa]
  rw[e1];clear e1;have l1:=(gM hpa).1
  have HPA:=aA hpa;go_enter Tryz.func73,Tryz.ntmps73;go_wp2_with (go_at_call 29;refine(aY _ _ _ _ f (HA.out.below hB0)).mono ?_;rw[hpa];rintro r w1 ⟨rfl,hb1⟩;have HB1:=aA (aC hB0 hb1);have HO1:=aA (aK hO0 hb1);clear hb1);go_loopw [4,5,6] (fun v ok ii wr=>∃i:Nat,i≤n∧ii= .int .i64 (i:Int)∧Below w.heap.size w wr∧((∃K,ok= .bool true∧dF eO f i=some K∧aX K∧wr.ownsRow w.heap.size 79 5 v K.length (aG K))∨(ok= .bool false∧dF eO f n=none∧wr.ownsRow w.heap.size 79 5 v 0 (aG [])))) (fun _ _ ii _=>n-(intOf ii).toNat);case atStart=>exact⟨0,gO _,rfl,HB1.out,.inl ⟨[],rfl,rfl,dN,HO1.out⟩⟩
  case round=>
   obtain⟨i,hi,rfl,hbl,hcase⟩:=hrel;rcases hcase with⟨K,rfl,hM,hKf,hown⟩|⟨rfl,hM,hown⟩
   ·by_cases hlt:i<n
    ·have hil:(i:Int)<(n:Int):=by omega
     have hfi:=(cG HPA.out).2 i hlt;have hKl:=jL i K hM
     have HM:=aA hM;have HOWN:=aA hown
     have HBL:=aA hbl;clear hown hbl hM;have hri:=HA.out.below HBL.out
     rcases hri.2.2 with h0|⟨pb,off,hpe,hblt,hcl⟩
     ·omega
     subst hpe;obtain⟨g0,g1,g2,g3,g4⟩:=hcl i hlt;clear hcl hri;have hdb:=M.ok_iff.1 hfi.1
     obtain⟨o1,o2⟩:=JE hfi.1;have hsr:=oD (f i) ((f i).m.d+(f i).m.e)
     have hwr:IntKind.i64.wrap ((f i).m.d+(f i).m.e)=(f i).m.d+(f i).m.e:=by rw[IntKind.wrap_i64];omega
     have hsg:=pB ((f i).m.d+(f i).m.e);have hmb:=gA (show 0≤(f i).c by omega) hfi.2.2 hsg.1 hsg.2
     have hwm:IntKind.i64.wrap ((f i).c*wB ((f i).m.d+(f i).m.e))=(f i).c*wB ((f i).m.d+(f i).m.e):=by rw[IntKind.wrap_i64];omega
     have htm:((f i).c*wB ((f i).m.d+(f i).m.e)).tmod 101=sg (f i) ((f i).m.d+(f i).m.e):=Int.tmod_eq_emod_of_nonneg hmb.1;have hsign:∀u:World,Calls Tryz.prog 107 #[.int .i64 ((f i).m.d+(f i).m.e)] u fun e w'=>e= .returned (.int .i64 (wB ((f i).m.d+(f i).m.e)))∧w'=u:=fun u=>BP _ u (by omega) (by omega)
     have hok:((eT (f i)).m.sum (gD (f i)).m).ok=true:=M.ok_iff.2 (by dsimp only[eT,gD,M.sum];omega);have hTwo:kZ (eT (f i)) (gD (f i)) ((eT (f i)).m.sum (gD (f i)).m):=kZ.of o1 o2 hok hsr ⟨show(0:Int)≤1 by decide,show(1:Int)≤100 by decide⟩
     have hfK:=(iN hKf (fP hTwo).1).1;clear hsg hmb hfi;go_wp2_with fail;have hq:=M4.box wr 77 (f i).m.x (f i).m.y (f i).m.d (f i).m.e
     obtain⟨q0,q1,q2,q3⟩:=hq;have g5:=((aF wr (.cells #[.int .i64 (f i).m.x,.int .i64 (f i).m.y,.int .i64 (f i).m.d,.int .i64 (f i).m.e] 77)).cell (p:=⟨pb,off+i*5,none⟩) hblt).trans g0
     have HBQ:=aA (aC HBL.out (aF wr (.cells #[.int .i64 (f i).m.x,.int .i64 (f i).m.y,.int .i64 (f i).m.d,.int .i64 (f i).m.e] 77)));have HOQ:=aA (aK HOWN.out (aF wr (.cells #[.int .i64 (f i).m.x,.int .i64 (f i).m.y,.int .i64 (f i).m.d,.int .i64 (f i).m.e] 77)))
     have hqs:(wr.alloc (.cells #[.int .i64 (f i).m.x,.int .i64 (f i).m.y,.int .i64 (f i).m.d,.int .i64 (f i).m.e] 77)).heap.size=wr.heap.size+1:=by simp
     clear g0 g1 g2 g3 g4;generalize wr.alloc (.cells #[.int .i64 (f i).m.x,.int .i64 (f i).m.y,.int .i64 (f i).m.d,.int .i64 (f i).m.e] 77)=wq at hqs HBQ HOQ q0 q1 q2 q3 g5⊢;have HPUT:=aA (GL wq.drew w.heap.size _ K (eT (f i)) (gD (f i)) (aK HOQ.out (aD _ _).drew) HBQ.out.drew.size hKl hKf ⟨o1,hsr⟩ ⟨o2,rfl⟩)
     have hpbq:pb<wq.drew.heap.size:=by show pb<wq.heap.size;rw[hqs];omega
     have hb1q:wr.heap.size<wq.drew.heap.size:=by show wr.heap.size<wq.heap.size;omega
     have hS0:P5 pb (off+i*5) wr.heap.size (f i) wq.drew:=⟨g5,q0,q1,q2,q3⟩
     go_region_held3 (fun u=>u.cell? ⟨pb,off+i*5,none⟩=some (.int .i64 (f i).c)∧u.cell? ⟨wr.heap.size,0,none⟩=some (.int .i64 (f i).m.x)∧u.cell? ⟨wr.heap.size,1,none⟩=some (.int .i64 (f i).m.y)∧u.cell? ⟨wr.heap.size,2,none⟩=some (.int .i64 (f i).m.d)∧u.cell? ⟨wr.heap.size,3,none⟩=some (.int .i64 (f i).m.e)) (first|with_reducible exact hS0|with_reducible exact P5.below hS0 (by assumption) hpbq hb1q) (first|(go_at_call 107;refine(hsign _).mono ?_;rintro e w' ⟨rfl,hw'⟩;obtain rfl:=hw'.symm;clear hw')|(go_at_call 106;refine HPUT.out.mono ?_;rintro e w4 ⟨v4,rfl,hb4,ho4⟩;have HB4:Hid (Below w.heap.size w w4):=(aC HBQ.out.drew hb4);have HO4:=aA ho4;clear ho4))
     all_goals
      go_wp2;go_roundw
      case rel=>
       refine⟨i+1,by omega,by go_num,HB4.out,?_⟩;have ho5:=HO4.out
       cases hst:bR K (eT (f i)) (gD (f i))with
       |none=>
        rw[hst]at ho5;exact .inr ⟨rfl,kF (i:=i+1) (by rw[dF,HM.out];show(bR K (eT (f i)) (gD (f i))).bind oU=none;rw[hst];rfl) n (by omega),ho5⟩
       |some K'=>
        rw[hst]at ho5;have hK':(dG K (aU (eT (f i)) (gD (f i)))).length≤400∧dG K (aU (eT (f i)) (gD (f i)))=K':=by
         unfold bR at hst;split at hst
         ·rename_i hh;exact⟨hh.2,Option.some.inj hst⟩
         ·cases hst
        refine .inl ⟨K',rfl,?_,hK'.2▸hfK,ho5⟩;rw[dF,HM.out];show(bR K (eT (f i)) (gD (f i))).bind oU=_
        rw[hst];exact if_pos (hK'.2▸hK'.1)
      case measure=>simp[intOf];omega
    ·obtain rfl:i=n:=by omega
     have HOWN:=aA hown;have HBL:=aA hbl
     have HM:=aA hM;clear hown hbl hM;go_wp2;refine bC (results_tmp2 rfl _ _ _) rfl ?_;rw[HM.out];exact⟨_,rfl,HBL.out,HOWN.out⟩
   ·have HOWN:=aA hown;have HBL:=aA hbl
    have HM:=aA hM;clear hown hbl hM;by_cases hlt:i<n
    ·have hil:(i:Int)<(n:Int):=by omega
     go_wp2;refine bC (results_tmp2 rfl _ _ _) rfl ?_;rw[HM.out];exact⟨_,rfl,HBL.out,HOWN.out⟩
    ·obtain rfl:i=n:=by omega
     go_wp2;refine bC (results_tmp2 rfl _ _ _) rfl ?_;rw[HM.out];exact⟨_,rfl,HBL.out,HOWN.out⟩
def cY (f:Nat→T) (n:Nat):List T×Bool:=mO fQ f n
theorem pM (f:Nat→T) (n:Nat):(cY f n).1.length≤400:=yF _ _ _
theorem GW (w:World) (a:Option Addr) (n cap:Nat) (f:Nat→T) (ha:Rd w a n cap f):Calls Tryz.prog 82 #[.slice a n cap] w fun r w'=>∃a' cap',r= .returned (.tuple #[.slice a' (cY f n).1.length cap',.bool (cY f n).2])∧Below w.heap.size w w'∧iJ w.heap.size w' a' cap' (cY f n).1:=by
 have hc:=yE w a n cap f 121 #[] fQ (fun _=>True) (enters_of Tryz.func121 (by kernel_rfl) rfl) FI (fun _ _ _ _ _ _=>trivial) (fun _ _ _=>trivial) trivial ha;change Calls Tryz.prog 118 #[.slice a n cap,.func (.func 121) #[] #[]] w fun r w'=>∃v,r= .returned (.tuple #[v,.bool (cY f n).2])∧Below w.heap.size w w'∧w'.ownsRow w.heap.size 79 5 v (cY f n).1.length (aG (cY f n).1)at hc;have hlen:=pM f n
 generalize cY f n=V at hc hlen⊢;go_enter Tryz.func82,Tryz.ntmps82;go_wp2_with (go_at_call 118;refine hc.mono ?_;rintro r w1 ⟨v,rfl,hb1,ho1⟩);refine bC (results_tmp2 rfl _ _ _) rfl ?_;obtain⟨a',cap',rfl,hout⟩:=aO ho1 (by omega);exact⟨a',cap',rfl,hb1,hout⟩
theorem GX (w:World) (a:Option Addr) (n cap:Nat) (f:Nat→T) (h:Rd w a n cap f):Calls Tryz.prog 74 #[.slice a n cap] w fun r w'=>∃v,r= .returned (.tuple #[v,.bool (cY f n).2])∧Below w.heap.size w w'∧w'.ownsRow w.heap.size 79 5 v (cY f n).1.length (aG (cY f n).1):=by
 have HA:=aA h;have hn:(n:Int)≤140737488351232:=by have:=h.2.1;omega
 have hO0:=aQ w w.heap.size (Nat.le_refl _);have hB0:=aF w (.cells #[] 79)
 clear h;cases hpa:aH n f
 ·have e1:cY f n=([],false):=by simp[cY,mO,hpa]
  rw[e1];go_enter Tryz.func74,Tryz.ntmps74;go_wp2_with (go_at_call 29;refine(aY _ _ _ _ f (HA.out.below hB0)).mono ?_;rw[hpa];rintro r w1 ⟨rfl,hb1⟩;have HB1:=aA (aC hB0 hb1);have HO1:=aA (aK hO0 hb1);clear hb1);go_loopw [4,5,6] (fun v ok ii wr=>ok= .bool false∧ii= .int .i64 0∧wr.ownsRow w.heap.size 79 5 v 0 (aG [])∧Below w.heap.size w wr) (fun _ _ _ _=>0);case atStart=>exact⟨rfl,rfl,HO1.out,HB1.out⟩
  case round=>
   obtain⟨rfl,rfl,hown,hbl⟩:=hrel;by_cases h0:n=0
   ·subst h0;go_wp2;refine bC (results_tmp2 rfl _ _ _) rfl ?_;exact⟨_,rfl,hbl,hown⟩
   ·have hpos:(0:Int)<(n:Int):=by omega
    go_wp2;refine bC (results_tmp2 rfl _ _ _) rfl ?_;exact⟨_,rfl,hbl,hown⟩
 ·have e1:cY f n=fZ (dF fQ f n):=by simp[cY,mO,hpa]
  rw[e1];clear e1;have l1:=(gM hpa).1
  have HPA:=aA hpa;go_enter Tryz.func74,Tryz.ntmps74;go_wp2_with (go_at_call 29;refine(aY _ _ _ _ f (HA.out.below hB0)).mono ?_;rw[hpa];rintro r w1 ⟨rfl,hb1⟩;have HB1:=aA (aC hB0 hb1);have HO1:=aA (aK hO0 hb1);clear hb1);go_loopw [4,5,6] (fun v ok ii wr=>∃i:Nat,i≤n∧ii= .int .i64 (i:Int)∧Below w.heap.size w wr∧((∃K,ok= .bool true∧dF fQ f i=some K∧aX K∧wr.ownsRow w.heap.size 79 5 v K.length (aG K))∨(ok= .bool false∧dF fQ f n=none∧wr.ownsRow w.heap.size 79 5 v 0 (aG [])))) (fun _ _ ii _=>n-(intOf ii).toNat);case atStart=>exact⟨0,gO _,rfl,HB1.out,.inl ⟨[],rfl,rfl,dN,HO1.out⟩⟩
  case round=>
   obtain⟨i,hi,rfl,hbl,hcase⟩:=hrel;rcases hcase with⟨K,rfl,hM,hKf,hown⟩|⟨rfl,hM,hown⟩
   ·by_cases hlt:i<n
    ·have hil:(i:Int)<(n:Int):=by omega
     have hfi:=(cG HPA.out).2 i hlt;have hKl:=jL i K hM
     have HM:=aA hM;have HOWN:=aA hown
     have HBL:=aA hbl;clear hown hbl hM;have hri:=HA.out.below HBL.out
     rcases hri.2.2 with h0|⟨pb,off,hpe,hblt,hcl⟩
     ·omega
     subst hpe;obtain⟨g0,g1,g2,g3,g4⟩:=hcl i hlt;clear hcl hri;have hdb:=M.ok_iff.1 hfi.1
     obtain⟨o1,o2⟩:=FJ hfi.1;have hsr:=oD (f i) ((f i).m.d+(f i).m.e)
     have hwr:IntKind.i64.wrap ((f i).m.d+(f i).m.e)=(f i).m.d+(f i).m.e:=by rw[IntKind.wrap_i64];omega
     have hsg:=pB ((f i).m.d+(f i).m.e);have hmb:=gA (show 0≤(f i).c by omega) hfi.2.2 hsg.1 hsg.2
     have hwm:IntKind.i64.wrap ((f i).c*wB ((f i).m.d+(f i).m.e))=(f i).c*wB ((f i).m.d+(f i).m.e):=by rw[IntKind.wrap_i64];omega
     have htm:((f i).c*wB ((f i).m.d+(f i).m.e)).tmod 101=sg (f i) ((f i).m.d+(f i).m.e):=Int.tmod_eq_emod_of_nonneg hmb.1;have hsign:∀u:World,Calls Tryz.prog 107 #[.int .i64 ((f i).m.d+(f i).m.e)] u fun e w'=>e= .returned (.int .i64 (wB ((f i).m.d+(f i).m.e)))∧w'=u:=fun u=>BP _ u (by omega) (by omega)
     have hok:((eQ (f i)).m.sum (fT (f i)).m).ok=true:=M.ok_iff.2 (by dsimp only[eQ,fT,M.sum];omega);have hTwo:kZ (eQ (f i)) (fT (f i)) ((eQ (f i)).m.sum (fT (f i)).m):=kZ.of o1 o2 hok hsr ⟨show(0:Int)≤1 by decide,show(1:Int)≤100 by decide⟩
     have hfK:=(iN hKf (fP hTwo).1).1;clear hsg hmb hfi;go_wp2_with fail;have hq:=M4.box wr 77 (f i).m.x (f i).m.y (f i).m.d (f i).m.e
     obtain⟨q0,q1,q2,q3⟩:=hq;have g5:=((aF wr (.cells #[.int .i64 (f i).m.x,.int .i64 (f i).m.y,.int .i64 (f i).m.d,.int .i64 (f i).m.e] 77)).cell (p:=⟨pb,off+i*5,none⟩) hblt).trans g0
     have HBQ:=aA (aC HBL.out (aF wr (.cells #[.int .i64 (f i).m.x,.int .i64 (f i).m.y,.int .i64 (f i).m.d,.int .i64 (f i).m.e] 77)));have HOQ:=aA (aK HOWN.out (aF wr (.cells #[.int .i64 (f i).m.x,.int .i64 (f i).m.y,.int .i64 (f i).m.d,.int .i64 (f i).m.e] 77)))
     have hqs:(wr.alloc (.cells #[.int .i64 (f i).m.x,.int .i64 (f i).m.y,.int .i64 (f i).m.d,.int .i64 (f i).m.e] 77)).heap.size=wr.heap.size+1:=by simp
     clear g0 g1 g2 g3 g4;generalize wr.alloc (.cells #[.int .i64 (f i).m.x,.int .i64 (f i).m.y,.int .i64 (f i).m.d,.int .i64 (f i).m.e] 77)=wq at hqs HBQ HOQ q0 q1 q2 q3 g5⊢;have HPUT:=aA (GL wq.drew w.heap.size _ K (eQ (f i)) (fT (f i)) (aK HOQ.out (aD _ _).drew) HBQ.out.drew.size hKl hKf ⟨o1,hsr⟩ ⟨o2,rfl⟩)
     have hpbq:pb<wq.drew.heap.size:=by show pb<wq.heap.size;rw[hqs];omega
     have hb1q:wr.heap.size<wq.drew.heap.size:=by show wr.heap.size<wq.heap.size;omega
     have hS0:P5 pb (off+i*5) wr.heap.size (f i) wq.drew:=⟨g5,q0,q1,q2,q3⟩
     go_region_held3 (fun u=>u.cell? ⟨pb,off+i*5,none⟩=some (.int .i64 (f i).c)∧u.cell? ⟨wr.heap.size,0,none⟩=some (.int .i64 (f i).m.x)∧u.cell? ⟨wr.heap.size,1,none⟩=some (.int .i64 (f i).m.y)∧u.cell? ⟨wr.heap.size,2,none⟩=some (.int .i64 (f i).m.d)∧u.cell? ⟨wr.heap.size,3,none⟩=some (.int .i64 (f i).m.e)) (first|with_reducible exact hS0|with_reducible exact P5.below hS0 (by assumption) hpbq hb1q) (first|(go_at_call 107;refine(hsign _).mono ?_;rintro e w' ⟨rfl,hw'⟩;obtain rfl:=hw'.symm;clear hw')|(go_at_call 106;refine HPUT.out.mono ?_;rintro e w4 ⟨v4,rfl,hb4,ho4⟩;have HB4:Hid (Below w.heap.size w w4):=(aC HBQ.out.drew hb4);have HO4:=aA ho4;clear ho4))
     all_goals
      go_wp2;go_roundw
      case rel=>
       refine⟨i+1,by omega,by go_num,HB4.out,?_⟩;have ho5:=HO4.out
       cases hst:bR K (eQ (f i)) (fT (f i))with
       |none=>
        rw[hst]at ho5;exact .inr ⟨rfl,kF (i:=i+1) (by rw[dF,HM.out];show(bR K (eQ (f i)) (fT (f i))).bind oU=none;rw[hst];rfl) n (by omega),ho5⟩
       |some K'=>
        rw[hst]at ho5;have hK':(dG K (aU (eQ (f i)) (fT (f i)))).length≤400∧dG K (aU (eQ (f i)) (fT (f i)))=K':=by
         unfold bR at hst;split at hst
         ·rename_i hh;exact⟨hh.2,Option.some.inj hst⟩
         ·cases hst
        refine .inl ⟨K',rfl,?_,hK'.2▸hfK,ho5⟩;rw[dF,HM.out];show(bR K (eQ (f i)) (fT (f i))).bind oU=_
        rw[hst];exact if_pos (hK'.2▸hK'.1)
      case measure=>simp[intOf];omega
    ·obtain rfl:i=n:=by omega
     have HOWN:=aA hown;have HBL:=aA hbl
     have HM:=aA hM;clear hown hbl hM;go_wp2;refine bC (results_tmp2 rfl _ _ _) rfl ?_;rw[HM.out];exact⟨_,rfl,HBL.out,HOWN.out⟩
   ·have HOWN:=aA hown;have HBL:=aA hbl
    have HM:=aA hM;clear hown hbl hM;by_cases hlt:i<n
    ·have hil:(i:Int)<(n:Int):=by omega
     go_wp2;refine bC (results_tmp2 rfl _ _ _) rfl ?_;rw[HM.out];exact⟨_,rfl,HBL.out,HOWN.out⟩
    ·obtain rfl:i=n:=by omega
     go_wp2;refine bC (results_tmp2 rfl _ _ _) rfl ?_;rw[HM.out];exact⟨_,rfl,HBL.out,HOWN.out⟩
end Go.Proofs.YtkcmamepoplcdaaGreatDoor
namespace Go.Proofs.YtkcmamepoplcdaaGreatDoor
open Go.RowKit
set_option linter.unusedVariables false
def QR:Nat→T:=fun _=>⟨0,⟨0,0,0,0⟩⟩
def aL (k to a b:Int) (p:List T) (m:Nat) (ln:Nat→Nat) (F:Nat→Nat→T):List T×Bool:=
 if m=6∧dW k to a b p.length (lf p)≠[]then
  if k=1 then(p,true)
  else if k=2 then cH (F a.toNat) (ln a.toNat) (F b.toNat) (ln b.toNat)
  else if k=3 then aW (F a.toNat) (ln a.toNat) (F b.toNat) (ln b.toNat)
  else if k=4 then cK (F a.toNat) (ln a.toNat) (F b.toNat) (ln b.toNat)
  else if k=5 then fG (F a.toNat) (ln a.toNat) (F b.toNat) (ln b.toNat)
  else if k=6 then cB (F a.toNat) (ln a.toNat)
  else if k=7 then cY (F a.toNat) (ln a.toNat)
  else cH (F to.toNat) (ln to.toNat) QR 0
 else([],false)
theorem xM {k to a b:Int} {p:List T} {m:Nat} {ln:Nat→Nat} {F:Nat→Nat→T} (h:¬(m=6∧dW k to a b p.length (lf p)≠[])):aL k to a b p m ln F=([],false):=if_neg h
theorem MC {k to a b:Int} {n:Nat} {f:Nat→T} (h:dW k to a b n f≠[]):uR k to a b n f=true:=by
 cases e:uR k to a b n f
 ·exact absurd (aS e) h
 ·rfl
theorem bE {k to a b:Int} {n:Nat} {f:Nat→T} (h:dW k to a b n f≠[]):(1≤k∧k≤8)∧(0≤to∧to≤5)∧(0≤a∧a≤5)∧(0≤b∧b≤5)∧aH n f=true:=by have:=of_decide_eq_true (MC h);exact⟨this.1,this.2.1,this.2.2.1,this.2.2.2.1,this.2.2.2.2.1⟩
theorem sU (f:Nat→T) (la:Nat) (g:Nat→T):∀u i,la-i=u→cV f la g 0 i 0=(List.range' i u).map f
 |0,i,h=>by rw[wW (by omega) (by omega)];rfl
 |u+1,i,h=>by rw[uX (by omega) (.inl (by omega)),sU f la g u (i+1) (by omega)];rfl
theorem PL (p:List T):(List.range' 0 p.length).map (lf p)=p:=by refine List.ext_getElem (by simp) (fun i h1 h2=>?_);simp[lf,List.getD_eq_getElem?_getD,List.getElem?_eq_getElem h2]
theorem yN {p:List T} {g:Nat→T} (h:aH p.length (lf p)=true):cH (lf p) p.length g 0=(p,true):=by
 have e:cV (lf p) p.length g 0 0 0=p:=by rw[sU (lf p) p.length g p.length 0 (by omega),PL]
 have hl:p.length≤400:=(cJ h).1;have h0:aH 0 g=true:=by simp[aH]
 unfold cH;rw[e,if_pos ⟨h,h0,hl⟩]
theorem DA (k to a b:Int) (p:List T) (m:Nat) (ln:Nat→Nat) (F:Nat→Nat→T):(aL k to a b p m ln F).1.length≤400:=by
 unfold aL;split
 ·next h=>
  repeat' split
  ·exact(cJ (bE h.2).2.2.2.2).1
  ·exact mQ _ _ _ _
  ·exact kQ _ _ _ _
  ·exact wM _ _ _ _
  ·exact uU _ _ _ _
  ·exact nR _ _
  ·exact pM _ _
  ·exact mQ _ _ _ _
 ·exact gO _
theorem qG (w:World) (g:Nat→T):Rd w none 0 0 g:=⟨Nat.le_refl _,by omega,.inl rfl⟩
theorem JA (w:World) (a:Option Addr) (g:Nat→T):Rd w a 0 0 g:=⟨Nat.le_refl _,by omega,.inl rfl⟩
abbrev mD (B sb:Nat) (x y:Int) (off A C:Nat) (u v:Value) (w:World):Prop:=
 w.cell? ⟨B,2,none⟩=some (.int .i64 x)∧w.cell? ⟨B,3,none⟩=some (.int .i64 y)∧w.cell? ⟨sb,off+A,none⟩=some u∧w.cell? ⟨sb,off+C,none⟩=some v
end Go.Proofs.YtkcmamepoplcdaaGreatDoor
