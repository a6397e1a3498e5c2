/-
  Turning an operator round, and back: the model, and what the program answers.
-/
import Derived.Test.YtkcmamepoplcdaaGreatDoorVau
set_option maxHeartbeats 16000000
set_option maxRecDepth 100000
namespace Go.Proofs.YtkcmamepoplcdaaGreatDoor
open Go.RowKit Go.Maps
set_option linter.unusedVariables false
theorem JI (w:World) (lo:Nat) (v:Value) (K:List T) (a b:T) (ho:w.ownsRow lo 79 5 v K.length (aG K)) (hlo:lo≤w.heap.size) (hl:K.length≤400) (hK:bC K) (h1:a.m.ok=true∧0≤a.c∧a.c≤100) (h2:b.m.ok=true∧b.c=1):Calls Tryz.prog 106 #[v,.int .i64 a.c,.agg #[.int .i64 a.m.x,.int .i64 a.m.y,.int .i64 a.m.d,.int .i64 a.m.e],.agg #[.int .i64 b.m.x,.int .i64 b.m.y,.int .i64 b.m.d,.int .i64 b.m.e]] w fun r w'=>∃v',r= .returned (.tuple #[v',.bool (gL (bY K a b)).2])∧Below w.heap.size w w'∧w'.ownsRow lo 79 5 v' (gL (bY K a b)).1.length (aG (gL (bY K a b)).1):=by
 obtain⟨p,cap,rfl,hout⟩:=aJ ho (by omega);have HR:=aA hout.1
 clear ho hout;have h2':b.m.ok=true∧0≤b.c∧b.c≤100:=⟨h2.1,by omega,by omega⟩
 have hm:∀u:World,Calls Tryz.prog 137 #[.agg #[.int .i64 a.c,.int .i64 a.m.x,.int .i64 a.m.y,.int .i64 a.m.d,.int .i64 a.m.e],.agg #[.int .i64 1,.int .i64 b.m.x,.int .i64 b.m.y,.int .i64 b.m.d,.int .i64 b.m.e]] u fun e w'=>∃v,e= .returned (.tuple #[v,.bool (a.m.sum b.m).ok])∧Below u.heap.size u w'∧w'.ownsRow u.heap.size 79 5 v (kM a b).length (aG (kM a b)):=fun u=>by
  have:=QB u a b h1 h2'
  rwa[h2.2]at this
 have hz:=aA (aC (aF w (.cells #[.int .i64 a.m.x,.int .i64 a.m.y,.int .i64 a.m.d,.int .i64 a.m.e] 77)) (aF _ (.cells #[.int .i64 b.m.x,.int .i64 b.m.y,.int .i64 b.m.d,.int .i64 b.m.e] 77)));have hsm:=qL h1 h2'
 cases hok:(a.m.sum b.m).ok
 ·have e1:bY K a b=none:=if_neg (fun h=>by rw[hok]at h;cases h.1);rw[e1];rw[hok]at hm;go_enter Tryz.func106,Tryz.ntmps106;go_wp2_with fail;refine(hm _).mono ?_;rintro r w1 ⟨vx,rfl,hb1,_⟩;have HB1:=aA (aC hz.out hb1)
  clear hb1;go_wp2;refine aY (results_tmp2 rfl _ _ _) rfl ?_;exact⟨_,rfl,HB1.out.alloc HB1.out.size _,aS w1 lo (iS hlo HB1.out.size)⟩
 ·have e0:kM a b=aX a b:=if_pos hok;rw[e0]at hm hsm;rw[hok]at hm;have hTwo:lR a b (a.m.sum b.m):=⟨h1.1,h2.1,hok,rfl,rfl,rfl,rfl,h1.2,h2'.2⟩
  have hpf:=(gD hTwo).1;by_cases h4:(dV K (aX a b)).length≤400
  ·have e1:bY K a b=some (dV K (aX a b)):=if_pos ⟨hok,h4⟩;have h4':((dV K (aX a b)).length:Int)≤400:=by omega
   rw[e1];go_enter Tryz.func106,Tryz.ntmps106;go_wp2_with fail;refine(hm _).mono ?_;rintro r w1 ⟨vx,rfl,hb1,hx⟩;obtain⟨px,cx,rfl,hox⟩:=aJ hx (by omega);have HB1:=aA (aC hz.out hb1)
   have HX:=aA hox.1;clear hb1 hx hox;go_wp2_with fail;refine(pO _ _ _ _ _ _ _ (lf K) (lf (aX a b)) (HR.out.below HB1.out) HX.out (by omega) (dY hK).at (dY hpf).at).mono ?_;rintro r w2 ⟨v2,rfl,hb2,hown⟩;change w2.ownsRow w1.heap.size 79 5 v2 (dV K (aX a b)).length (aG (dV K (aX a b)))at hown;obtain⟨py,cy,rfl,_⟩:=aJ hown (by omega);have HB2:=aA (aC HB1.out hb2)
   have HO:=aA (bX hown (iS hlo HB1.out.size));clear hb2 hown;go_wp2;refine aY (results_tmp2 rfl _ _ _) rfl ?_;exact⟨_,rfl,HB2.out,HO.out⟩
  ·have e1:bY K a b=none:=if_neg (fun h=>h4 h.2);have h4':(400:Int)<((dV K (aX a b)).length:Int):=by omega
   have hal:(dV K (aX a b)).length≤2000:=by have:=lU (lf K) K.length (lf (aX a b)) (aX a b).length 0 0;unfold dV;omega
   rw[e1];go_enter Tryz.func106,Tryz.ntmps106;go_wp2_with fail;refine(hm _).mono ?_;rintro r w1 ⟨vx,rfl,hb1,hx⟩;obtain⟨px,cx,rfl,hox⟩:=aJ hx (by omega);have HB1:=aA (aC hz.out hb1)
   have HX:=aA hox.1;clear hb1 hx hox;go_wp2_with fail;refine(pO _ _ _ _ _ _ _ (lf K) (lf (aX a b)) (HR.out.below HB1.out) HX.out (by omega) (dY hK).at (dY hpf).at).mono ?_;rintro r w2 ⟨v2,rfl,hb2,hown⟩;change w2.ownsRow w1.heap.size 79 5 v2 (dV K (aX a b)).length (aG (dV K (aX a b)))at hown;obtain⟨py,cy,rfl,_⟩:=aJ hown (by omega);have HB2:=aA (aC HB1.out hb2)
   clear hb2 hown;go_wp2;refine aY (results_tmp2 rfl _ _ _) rfl ?_;exact⟨_,rfl,HB2.out.alloc HB2.out.size _,aS w2 lo (iS hlo HB2.out.size)⟩
abbrev P5 (pb o b:Nat) (t:T) (u:World):Prop:=u.cell? ⟨pb,o,none⟩=some (.int .i64 t.c)∧u.cell? ⟨b,0,none⟩=some (.int .i64 t.m.x)∧u.cell? ⟨b,1,none⟩=some (.int .i64 t.m.y)∧u.cell? ⟨b,2,none⟩=some (.int .i64 t.m.d)∧u.cell? ⟨b,3,none⟩=some (.int .i64 t.m.e)
theorem P5.below {pb o b:Nat} {t:T} {u u':World} (h:P5 pb o b t u) (hb:Below u.heap.size u u') (h1:pb<u.heap.size) (h2:b<u.heap.size):P5 pb o b t u':=
 ⟨(hb.cell (p:=⟨pb,o,none⟩) h1).trans h.1,(hb.cell (p:=⟨b,0,none⟩) h2).trans h.2.1,(hb.cell (p:=⟨b,1,none⟩) h2).trans h.2.2.1,(hb.cell (p:=⟨b,2,none⟩) h2).trans h.2.2.2.1,(hb.cell (p:=⟨b,3,none⟩) h2).trans h.2.2.2.2⟩
def cG (f:Nat→T) (n:Nat):List T×Bool:=nM fA f n
theorem oN (f:Nat→T) (n:Nat):(cG f n).1.length≤400:=zG _ _ _
theorem EZ (w:World) (a:Option Addr) (n cap:Nat) (f:Nat→T) (ha:Rd w a n cap f):Calls Tryz.prog 81 #[.slice a n cap] w fun r w'=>∃a' cap',r= .returned (.tuple #[.slice a' (cG f n).1.length cap',.bool (cG f n).2])∧Below w.heap.size w w'∧iT w.heap.size w' a' cap' (cG f n).1:=by
 have hc:=zF w a n cap f 119 #[] fA (fun _=>True) (enters_of Tryz.func119 (by kernel_rfl) rfl) KX (fun _ _ _ _ _ _=>trivial) (fun _ _ _=>trivial) trivial ha;change Calls Tryz.prog 118 #[.slice a n cap,.func (.func 119) #[] #[]] w fun r w'=>∃v,r= .returned (.tuple #[v,.bool (cG f n).2])∧Below w.heap.size w w'∧w'.ownsRow w.heap.size 79 5 v (cG f n).1.length (aG (cG f n).1)at hc;have hlen:=oN f n
 generalize cG f n=V at hc hlen⊢;go_enter Tryz.func81,Tryz.ntmps81;go_wp2_with (go_at_call 118;refine hc.mono ?_;rintro r w1 ⟨v,rfl,hb1,ho1⟩);refine aY (results_tmp2 rfl _ _ _) rfl ?_;obtain⟨a',cap',rfl,hout⟩:=aJ ho1 (by omega);exact⟨a',cap',rfl,hb1,hout⟩
theorem FA (w:World) (a:Option Addr) (n cap:Nat) (f:Nat→T) (h:Rd w a n cap f):Calls Tryz.prog 73 #[.slice a n cap] w fun r w'=>∃v,r= .returned (.tuple #[v,.bool (cG f n).2])∧Below w.heap.size w w'∧w'.ownsRow w.heap.size 79 5 v (cG f n).1.length (aG (cG f n).1):=by
 have HA:=aA h;have hn:(n:Int)≤140737488351232:=by have:=h.2.1;omega
 have hO0:=aS w w.heap.size (Nat.le_refl _);have hB0:=aF w (.cells #[] 79)
 clear h;cases hpa:aK n f
 ·have e1:cG f n=([],false):=by simp[cG,nM,hpa]
  rw[e1];go_enter Tryz.func73,Tryz.ntmps73;go_wp2_with (go_at_call 29;refine(bD _ _ _ _ f (HA.out.below hB0)).mono ?_;rw[hpa];rintro r w1 ⟨rfl,hb1⟩;have HB1:=aA (aC hB0 hb1);have HO1:=aA (aR hO0 hb1);clear hb1);go_loopw [4,5,6] (fun v ok ii wr=>ok= .bool false∧ii= .int .i64 0∧wr.ownsRow w.heap.size 79 5 v 0 (aG [])∧Below w.heap.size w wr) (fun _ _ _ _=>0);case atStart=>exact⟨rfl,rfl,HO1.out,HB1.out⟩
  case round=>
   obtain⟨rfl,rfl,hown,hbl⟩:=hrel;by_cases h0:n=0
   ·subst h0;go_wp2;refine aY (results_tmp2 rfl _ _ _) rfl ?_;exact⟨_,rfl,hbl,hown⟩
   ·have hpos:(0:Int)<(n:Int):=by omega
    go_wp2;refine aY (results_tmp2 rfl _ _ _) rfl ?_;exact⟨_,rfl,hbl,hown⟩
 ·have e1:cG f n=gL (dU fA f n):=by simp[cG,nM,hpa]
  rw[e1];clear e1;have l1:=(gZ hpa).1
  have HPA:=aA hpa;go_enter Tryz.func73,Tryz.ntmps73;go_wp2_with (go_at_call 29;refine(bD _ _ _ _ f (HA.out.below hB0)).mono ?_;rw[hpa];rintro r w1 ⟨rfl,hb1⟩;have HB1:=aA (aC hB0 hb1);have HO1:=aA (aR hO0 hb1);clear hb1);go_loopw [4,5,6] (fun v ok ii wr=>∃i:Nat,i≤n∧ii= .int .i64 (i:Int)∧Below w.heap.size w wr∧((∃K,ok= .bool true∧dU fA f i=some K∧bC K∧wr.ownsRow w.heap.size 79 5 v K.length (aG K))∨(ok= .bool false∧dU fA f n=none∧wr.ownsRow w.heap.size 79 5 v 0 (aG [])))) (fun _ _ ii _=>n-(intOf ii).toNat);case atStart=>exact⟨0,iK _,rfl,HB1.out,.inl ⟨[],rfl,rfl,eC,HO1.out⟩⟩
  case round=>
   obtain⟨i,hi,rfl,hbl,hcase⟩:=hrel;rcases hcase with⟨K,rfl,hM,hKf,hown⟩|⟨rfl,hM,hown⟩
   ·by_cases hlt:i<n
    ·have hil:(i:Int)<(n:Int):=by omega
     have hfi:=(cO HPA.out).2 i hlt;have hKl:=kG i K hM
     have HM:=aA hM;have HOWN:=aA hown
     have HBL:=aA hbl;clear hown hbl hM;have hri:=HA.out.below HBL.out
     rcases hri.2.2 with h0|⟨pb,off,hpe,hblt,hcl⟩
     ·omega
     subst hpe;obtain⟨g0,g1,g2,g3,g4⟩:=hcl i hlt;clear hcl hri;have hdb:=M.ok_iff.1 hfi.1
     obtain⟨o1,o2⟩:=KY hfi.1;have hsr:=pB (f i) ((f i).m.d+(f i).m.e)
     have hwr:IntKind.i64.wrap ((f i).m.d+(f i).m.e)=(f i).m.d+(f i).m.e:=by rw[IntKind.wrap_i64];omega
     have hsg:=pX ((f i).m.d+(f i).m.e);have hmb:=gM (show 0≤(f i).c by omega) hfi.2.2 hsg.1 hsg.2
     have hwm:IntKind.i64.wrap ((f i).c*xA ((f i).m.d+(f i).m.e))=(f i).c*xA ((f i).m.d+(f i).m.e):=by rw[IntKind.wrap_i64];omega
     have htm:((f i).c*xA ((f i).m.d+(f i).m.e)).tmod 101=sg (f i) ((f i).m.d+(f i).m.e):=Int.tmod_eq_emod_of_nonneg hmb.1;have hsign:∀u:World,Calls Tryz.prog 107 #[.int .i64 ((f i).m.d+(f i).m.e)] u fun e w'=>e= .returned (.int .i64 (xA ((f i).m.d+(f i).m.e)))∧w'=u:=fun u=>CZ _ u (by omega) (by omega)
     have hok:((fG (f i)).m.sum (gQ (f i)).m).ok=true:=M.ok_iff.2 (by dsimp only[fG,gQ,M.sum];omega);have hTwo:lR (fG (f i)) (gQ (f i)) ((fG (f i)).m.sum (gQ (f i)).m):=lR.of o1 o2 hok hsr ⟨show(0:Int)≤1 by decide,show(1:Int)≤100 by decide⟩
     have hfK:=(jD hKf (gD hTwo).1).1;clear hsg hmb hfi;go_wp2_with fail;have hq:=M4.box wr 77 (f i).m.x (f i).m.y (f i).m.d (f i).m.e
     obtain⟨q0,q1,q2,q3⟩:=hq;have g5:=((aF wr (.cells #[.int .i64 (f i).m.x,.int .i64 (f i).m.y,.int .i64 (f i).m.d,.int .i64 (f i).m.e] 77)).cell (p:=⟨pb,off+i*5,none⟩) hblt).trans g0
     have HBQ:=aA (aC HBL.out (aF wr (.cells #[.int .i64 (f i).m.x,.int .i64 (f i).m.y,.int .i64 (f i).m.d,.int .i64 (f i).m.e] 77)));have HOQ:=aA (aR HOWN.out (aF wr (.cells #[.int .i64 (f i).m.x,.int .i64 (f i).m.y,.int .i64 (f i).m.d,.int .i64 (f i).m.e] 77)))
     have hqs:(wr.alloc (.cells #[.int .i64 (f i).m.x,.int .i64 (f i).m.y,.int .i64 (f i).m.d,.int .i64 (f i).m.e] 77)).heap.size=wr.heap.size+1:=by simp
     clear g0 g1 g2 g3 g4;generalize wr.alloc (.cells #[.int .i64 (f i).m.x,.int .i64 (f i).m.y,.int .i64 (f i).m.d,.int .i64 (f i).m.e] 77)=wq at hqs HBQ HOQ q0 q1 q2 q3 g5⊢;have HPUT:=aA (JI wq.drew w.heap.size _ K (fG (f i)) (gQ (f i)) (aR HOQ.out (aD _ _).drew) HBQ.out.drew.size hKl hKf ⟨o1,hsr⟩ ⟨o2,rfl⟩)
     have hpbq:pb<wq.drew.heap.size:=by show pb<wq.heap.size;rw[hqs];omega
     have hb1q:wr.heap.size<wq.drew.heap.size:=by show wr.heap.size<wq.heap.size;omega
     have hS0:P5 pb (off+i*5) wr.heap.size (f i) wq.drew:=⟨g5,q0,q1,q2,q3⟩
     go_region_held3 (fun u=>u.cell? ⟨pb,off+i*5,none⟩=some (.int .i64 (f i).c)∧u.cell? ⟨wr.heap.size,0,none⟩=some (.int .i64 (f i).m.x)∧u.cell? ⟨wr.heap.size,1,none⟩=some (.int .i64 (f i).m.y)∧u.cell? ⟨wr.heap.size,2,none⟩=some (.int .i64 (f i).m.d)∧u.cell? ⟨wr.heap.size,3,none⟩=some (.int .i64 (f i).m.e)) (first|with_reducible exact hS0|with_reducible exact P5.below hS0 (by assumption) hpbq hb1q) (first|(go_at_call 107;refine(hsign _).mono ?_;rintro e w' ⟨rfl,hw'⟩;obtain rfl:=hw'.symm;clear hw')|(go_at_call 106;refine HPUT.out.mono ?_;rintro e w4 ⟨v4,rfl,hb4,ho4⟩;have HB4:Hid (Below w.heap.size w w4):=(aC HBQ.out.drew hb4);have HO4:=aA ho4;clear ho4))
     all_goals
      go_wp2;go_roundw
      case rel=>
       refine⟨i+1,by omega,by go_num,HB4.out,?_⟩;have ho5:=HO4.out
       cases hst:bY K (fG (f i)) (gQ (f i))with
       |none=>
        rw[hst]at ho5;exact .inr ⟨rfl,kV (i:=i+1) (by rw[dU,HM.out];show(bY K (fG (f i)) (gQ (f i))).bind pQ=none;rw[hst];rfl) n (by omega),ho5⟩
       |some K'=>
        rw[hst]at ho5;have hK':(dV K (aX (fG (f i)) (gQ (f i)))).length≤400∧dV K (aX (fG (f i)) (gQ (f i)))=K':=by
         unfold bY at hst;split at hst
         ·rename_i hh;exact⟨hh.2,Option.some.inj hst⟩
         ·cases hst
        refine .inl ⟨K',rfl,?_,hK'.2▸hfK,ho5⟩;rw[dU,HM.out];show(bY K (fG (f i)) (gQ (f i))).bind pQ=_
        rw[hst];exact if_pos (hK'.2▸hK'.1)
      case measure=>simp[intOf];omega
    ·obtain rfl:i=n:=by omega
     have HOWN:=aA hown;have HBL:=aA hbl
     have HM:=aA hM;clear hown hbl hM;go_wp2;refine aY (results_tmp2 rfl _ _ _) rfl ?_;rw[HM.out];exact⟨_,rfl,HBL.out,HOWN.out⟩
   ·have HOWN:=aA hown;have HBL:=aA hbl
    have HM:=aA hM;clear hown hbl hM;by_cases hlt:i<n
    ·have hil:(i:Int)<(n:Int):=by omega
     go_wp2;refine aY (results_tmp2 rfl _ _ _) rfl ?_;rw[HM.out];exact⟨_,rfl,HBL.out,HOWN.out⟩
    ·obtain rfl:i=n:=by omega
     go_wp2;refine aY (results_tmp2 rfl _ _ _) rfl ?_;rw[HM.out];exact⟨_,rfl,HBL.out,HOWN.out⟩
def dI (f:Nat→T) (n:Nat):List T×Bool:=nM gE f n
theorem qK (f:Nat→T) (n:Nat):(dI f n).1.length≤400:=zG _ _ _
theorem JT (w:World) (a:Option Addr) (n cap:Nat) (f:Nat→T) (ha:Rd w a n cap f):Calls Tryz.prog 82 #[.slice a n cap] w fun r w'=>∃a' cap',r= .returned (.tuple #[.slice a' (dI f n).1.length cap',.bool (dI f n).2])∧Below w.heap.size w w'∧iT w.heap.size w' a' cap' (dI f n).1:=by
 have hc:=zF w a n cap f 121 #[] gE (fun _=>True) (enters_of Tryz.func121 (by kernel_rfl) rfl) GY (fun _ _ _ _ _ _=>trivial) (fun _ _ _=>trivial) trivial ha;change Calls Tryz.prog 118 #[.slice a n cap,.func (.func 121) #[] #[]] w fun r w'=>∃v,r= .returned (.tuple #[v,.bool (dI f n).2])∧Below w.heap.size w w'∧w'.ownsRow w.heap.size 79 5 v (dI f n).1.length (aG (dI f n).1)at hc;have hlen:=qK f n
 generalize dI f n=V at hc hlen⊢;go_enter Tryz.func82,Tryz.ntmps82;go_wp2_with (go_at_call 118;refine hc.mono ?_;rintro r w1 ⟨v,rfl,hb1,ho1⟩);refine aY (results_tmp2 rfl _ _ _) rfl ?_;obtain⟨a',cap',rfl,hout⟩:=aJ ho1 (by omega);exact⟨a',cap',rfl,hb1,hout⟩
theorem JU (w:World) (a:Option Addr) (n cap:Nat) (f:Nat→T) (h:Rd w a n cap f):Calls Tryz.prog 74 #[.slice a n cap] w fun r w'=>∃v,r= .returned (.tuple #[v,.bool (dI f n).2])∧Below w.heap.size w w'∧w'.ownsRow w.heap.size 79 5 v (dI f n).1.length (aG (dI f n).1):=by
 have HA:=aA h;have hn:(n:Int)≤140737488351232:=by have:=h.2.1;omega
 have hO0:=aS w w.heap.size (Nat.le_refl _);have hB0:=aF w (.cells #[] 79)
 clear h;cases hpa:aK n f
 ·have e1:dI f n=([],false):=by simp[dI,nM,hpa]
  rw[e1];go_enter Tryz.func74,Tryz.ntmps74;go_wp2_with (go_at_call 29;refine(bD _ _ _ _ f (HA.out.below hB0)).mono ?_;rw[hpa];rintro r w1 ⟨rfl,hb1⟩;have HB1:=aA (aC hB0 hb1);have HO1:=aA (aR hO0 hb1);clear hb1);go_loopw [4,5,6] (fun v ok ii wr=>ok= .bool false∧ii= .int .i64 0∧wr.ownsRow w.heap.size 79 5 v 0 (aG [])∧Below w.heap.size w wr) (fun _ _ _ _=>0);case atStart=>exact⟨rfl,rfl,HO1.out,HB1.out⟩
  case round=>
   obtain⟨rfl,rfl,hown,hbl⟩:=hrel;by_cases h0:n=0
   ·subst h0;go_wp2;refine aY (results_tmp2 rfl _ _ _) rfl ?_;exact⟨_,rfl,hbl,hown⟩
   ·have hpos:(0:Int)<(n:Int):=by omega
    go_wp2;refine aY (results_tmp2 rfl _ _ _) rfl ?_;exact⟨_,rfl,hbl,hown⟩
 ·have e1:dI f n=gL (dU gE f n):=by simp[dI,nM,hpa]
  rw[e1];clear e1;have l1:=(gZ hpa).1
  have HPA:=aA hpa;go_enter Tryz.func74,Tryz.ntmps74;go_wp2_with (go_at_call 29;refine(bD _ _ _ _ f (HA.out.below hB0)).mono ?_;rw[hpa];rintro r w1 ⟨rfl,hb1⟩;have HB1:=aA (aC hB0 hb1);have HO1:=aA (aR hO0 hb1);clear hb1);go_loopw [4,5,6] (fun v ok ii wr=>∃i:Nat,i≤n∧ii= .int .i64 (i:Int)∧Below w.heap.size w wr∧((∃K,ok= .bool true∧dU gE f i=some K∧bC K∧wr.ownsRow w.heap.size 79 5 v K.length (aG K))∨(ok= .bool false∧dU gE f n=none∧wr.ownsRow w.heap.size 79 5 v 0 (aG [])))) (fun _ _ ii _=>n-(intOf ii).toNat);case atStart=>exact⟨0,iK _,rfl,HB1.out,.inl ⟨[],rfl,rfl,eC,HO1.out⟩⟩
  case round=>
   obtain⟨i,hi,rfl,hbl,hcase⟩:=hrel;rcases hcase with⟨K,rfl,hM,hKf,hown⟩|⟨rfl,hM,hown⟩
   ·by_cases hlt:i<n
    ·have hil:(i:Int)<(n:Int):=by omega
     have hfi:=(cO HPA.out).2 i hlt;have hKl:=kG i K hM
     have HM:=aA hM;have HOWN:=aA hown
     have HBL:=aA hbl;clear hown hbl hM;have hri:=HA.out.below HBL.out
     rcases hri.2.2 with h0|⟨pb,off,hpe,hblt,hcl⟩
     ·omega
     subst hpe;obtain⟨g0,g1,g2,g3,g4⟩:=hcl i hlt;clear hcl hri;have hdb:=M.ok_iff.1 hfi.1
     obtain⟨o1,o2⟩:=GZ hfi.1;have hsr:=pB (f i) ((f i).m.d+(f i).m.e)
     have hwr:IntKind.i64.wrap ((f i).m.d+(f i).m.e)=(f i).m.d+(f i).m.e:=by rw[IntKind.wrap_i64];omega
     have hsg:=pX ((f i).m.d+(f i).m.e);have hmb:=gM (show 0≤(f i).c by omega) hfi.2.2 hsg.1 hsg.2
     have hwm:IntKind.i64.wrap ((f i).c*xA ((f i).m.d+(f i).m.e))=(f i).c*xA ((f i).m.d+(f i).m.e):=by rw[IntKind.wrap_i64];omega
     have htm:((f i).c*xA ((f i).m.d+(f i).m.e)).tmod 101=sg (f i) ((f i).m.d+(f i).m.e):=Int.tmod_eq_emod_of_nonneg hmb.1;have hsign:∀u:World,Calls Tryz.prog 107 #[.int .i64 ((f i).m.d+(f i).m.e)] u fun e w'=>e= .returned (.int .i64 (xA ((f i).m.d+(f i).m.e)))∧w'=u:=fun u=>CZ _ u (by omega) (by omega)
     have hok:((fE (f i)).m.sum (gH (f i)).m).ok=true:=M.ok_iff.2 (by dsimp only[fE,gH,M.sum];omega);have hTwo:lR (fE (f i)) (gH (f i)) ((fE (f i)).m.sum (gH (f i)).m):=lR.of o1 o2 hok hsr ⟨show(0:Int)≤1 by decide,show(1:Int)≤100 by decide⟩
     have hfK:=(jD hKf (gD hTwo).1).1;clear hsg hmb hfi;go_wp2_with fail;have hq:=M4.box wr 77 (f i).m.x (f i).m.y (f i).m.d (f i).m.e
     obtain⟨q0,q1,q2,q3⟩:=hq;have g5:=((aF wr (.cells #[.int .i64 (f i).m.x,.int .i64 (f i).m.y,.int .i64 (f i).m.d,.int .i64 (f i).m.e] 77)).cell (p:=⟨pb,off+i*5,none⟩) hblt).trans g0
     have HBQ:=aA (aC HBL.out (aF wr (.cells #[.int .i64 (f i).m.x,.int .i64 (f i).m.y,.int .i64 (f i).m.d,.int .i64 (f i).m.e] 77)));have HOQ:=aA (aR HOWN.out (aF wr (.cells #[.int .i64 (f i).m.x,.int .i64 (f i).m.y,.int .i64 (f i).m.d,.int .i64 (f i).m.e] 77)))
     have hqs:(wr.alloc (.cells #[.int .i64 (f i).m.x,.int .i64 (f i).m.y,.int .i64 (f i).m.d,.int .i64 (f i).m.e] 77)).heap.size=wr.heap.size+1:=by simp
     clear g0 g1 g2 g3 g4;generalize wr.alloc (.cells #[.int .i64 (f i).m.x,.int .i64 (f i).m.y,.int .i64 (f i).m.d,.int .i64 (f i).m.e] 77)=wq at hqs HBQ HOQ q0 q1 q2 q3 g5⊢;have HPUT:=aA (JI wq.drew w.heap.size _ K (fE (f i)) (gH (f i)) (aR HOQ.out (aD _ _).drew) HBQ.out.drew.size hKl hKf ⟨o1,hsr⟩ ⟨o2,rfl⟩)
     have hpbq:pb<wq.drew.heap.size:=by show pb<wq.heap.size;rw[hqs];omega
     have hb1q:wr.heap.size<wq.drew.heap.size:=by show wr.heap.size<wq.heap.size;omega
     have hS0:P5 pb (off+i*5) wr.heap.size (f i) wq.drew:=⟨g5,q0,q1,q2,q3⟩
     go_region_held3 (fun u=>u.cell? ⟨pb,off+i*5,none⟩=some (.int .i64 (f i).c)∧u.cell? ⟨wr.heap.size,0,none⟩=some (.int .i64 (f i).m.x)∧u.cell? ⟨wr.heap.size,1,none⟩=some (.int .i64 (f i).m.y)∧u.cell? ⟨wr.heap.size,2,none⟩=some (.int .i64 (f i).m.d)∧u.cell? ⟨wr.heap.size,3,none⟩=some (.int .i64 (f i).m.e)) (first|with_reducible exact hS0|with_reducible exact P5.below hS0 (by assumption) hpbq hb1q) (first|(go_at_call 107;refine(hsign _).mono ?_;rintro e w' ⟨rfl,hw'⟩;obtain rfl:=hw'.symm;clear hw')|(go_at_call 106;refine HPUT.out.mono ?_;rintro e w4 ⟨v4,rfl,hb4,ho4⟩;have HB4:Hid (Below w.heap.size w w4):=(aC HBQ.out.drew hb4);have HO4:=aA ho4;clear ho4))
     all_goals
      go_wp2;go_roundw
      case rel=>
       refine⟨i+1,by omega,by go_num,HB4.out,?_⟩;have ho5:=HO4.out
       cases hst:bY K (fE (f i)) (gH (f i))with
       |none=>
        rw[hst]at ho5;exact .inr ⟨rfl,kV (i:=i+1) (by rw[dU,HM.out];show(bY K (fE (f i)) (gH (f i))).bind pQ=none;rw[hst];rfl) n (by omega),ho5⟩
       |some K'=>
        rw[hst]at ho5;have hK':(dV K (aX (fE (f i)) (gH (f i)))).length≤400∧dV K (aX (fE (f i)) (gH (f i)))=K':=by
         unfold bY at hst;split at hst
         ·rename_i hh;exact⟨hh.2,Option.some.inj hst⟩
         ·cases hst
        refine .inl ⟨K',rfl,?_,hK'.2▸hfK,ho5⟩;rw[dU,HM.out];show(bY K (fE (f i)) (gH (f i))).bind pQ=_
        rw[hst];exact if_pos (hK'.2▸hK'.1)
      case measure=>simp[intOf];omega
    ·obtain rfl:i=n:=by omega
     have HOWN:=aA hown;have HBL:=aA hbl
     have HM:=aA hM;clear hown hbl hM;go_wp2;refine aY (results_tmp2 rfl _ _ _) rfl ?_;rw[HM.out];exact⟨_,rfl,HBL.out,HOWN.out⟩
   ·have HOWN:=aA hown;have HBL:=aA hbl
    have HM:=aA hM;clear hown hbl hM;by_cases hlt:i<n
    ·have hil:(i:Int)<(n:Int):=by omega
     go_wp2;refine aY (results_tmp2 rfl _ _ _) rfl ?_;rw[HM.out];exact⟨_,rfl,HBL.out,HOWN.out⟩
    ·obtain rfl:i=n:=by omega
     go_wp2;refine aY (results_tmp2 rfl _ _ _) rfl ?_;rw[HM.out];exact⟨_,rfl,HBL.out,HOWN.out⟩
end Go.Proofs.YtkcmamepoplcdaaGreatDoor
namespace Go.Proofs.YtkcmamepoplcdaaGreatDoor
open Go.RowKit
set_option linter.unusedVariables false
def ST:Nat→T:=fun _=>⟨0,⟨0,0,0,0⟩⟩
def aN (k to a b:Int) (p:List T) (m:Nat) (ln:Nat→Nat) (F:Nat→Nat→T):List T×Bool:=
 if m=6∧eI k to a b p.length (lf p)≠[]then
  if k=1 then(p,true)
  else if k=2 then cR (F a.toNat) (ln a.toNat) (F b.toNat) (ln b.toNat)
  else if k=3 then bB (F a.toNat) (ln a.toNat) (F b.toNat) (ln b.toNat)
  else if k=4 then cU (F a.toNat) (ln a.toNat) (F b.toNat) (ln b.toNat)
  else if k=5 then fS (F a.toNat) (ln a.toNat) (F b.toNat) (ln b.toNat)
  else if k=6 then cG (F a.toNat) (ln a.toNat)
  else if k=7 then dI (F a.toNat) (ln a.toNat)
  else cR (F to.toNat) (ln to.toNat) ST 0
 else([],false)
theorem yN {k to a b:Int} {p:List T} {m:Nat} {ln:Nat→Nat} {F:Nat→Nat→T} (h:¬(m=6∧eI k to a b p.length (lf p)≠[])):aN k to a b p m ln F=([],false):=if_neg h
theorem OB {k to a b:Int} {n:Nat} {f:Nat→T} (h:eI k to a b n f≠[]):vO k to a b n f=true:=by
 cases e:vO k to a b n f
 ·exact absurd (aV e) h
 ·rfl
theorem bL {k to a b:Int} {n:Nat} {f:Nat→T} (h:eI k to a b n f≠[]):(1≤k∧k≤8)∧(0≤to∧to≤5)∧(0≤a∧a≤5)∧(0≤b∧b≤5)∧aK n f=true:=by have:=of_decide_eq_true (OB h);exact⟨this.1,this.2.1,this.2.2.1,this.2.2.2.1,this.2.2.2.2.1⟩
theorem tR (f:Nat→T) (la:Nat) (g:Nat→T):∀u i,la-i=u→dF f la g 0 i 0=(List.range' i u).map f
 |0,i,h=>by rw[xY (by omega) (by omega)];rfl
 |u+1,i,h=>by rw[vV (by omega) (.inl (by omega)),tR f la g u (i+1) (by omega)];rfl
theorem RN (p:List T):(List.range' 0 p.length).map (lf p)=p:=by refine List.ext_getElem (by simp) (fun i h1 h2=>?_);simp[lf,List.getD_eq_getElem?_getD,List.getElem?_eq_getElem h2]
theorem zO {p:List T} {g:Nat→T} (h:aK p.length (lf p)=true):cR (lf p) p.length g 0=(p,true):=by
 have e:dF (lf p) p.length g 0 0 0=p:=by rw[tR (lf p) p.length g p.length 0 (by omega),RN]
 have hl:p.length≤400:=(cT h).1;have h0:aK 0 g=true:=by simp[aK]
 unfold cR;rw[e,if_pos ⟨h,h0,hl⟩]
theorem ER (k to a b:Int) (p:List T) (m:Nat) (ln:Nat→Nat) (F:Nat→Nat→T):(aN k to a b p m ln F).1.length≤400:=by
 unfold aN;split
 ·next h=>
  repeat' split
  ·exact(cT (bL h.2).2.2.2.2).1
  ·exact nO _ _ _ _
  ·exact lF _ _ _ _
  ·exact xO _ _ _ _
  ·exact vQ _ _ _ _
  ·exact oN _ _
  ·exact qK _ _
  ·exact nO _ _ _ _
 ·exact iK _
theorem rG (w:World) (g:Nat→T):Rd w none 0 0 g:=⟨Nat.le_refl _,by omega,.inl rfl⟩
theorem KT (w:World) (a:Option Addr) (g:Nat→T):Rd w a 0 0 g:=⟨Nat.le_refl _,by omega,.inl rfl⟩
abbrev mY (B sb:Nat) (x y:Int) (off A C:Nat) (u v:Value) (w:World):Prop:=
 w.cell? ⟨B,2,none⟩=some (.int .i64 x)∧w.cell? ⟨B,3,none⟩=some (.int .i64 y)∧w.cell? ⟨sb,off+A,none⟩=some u∧w.cell? ⟨sb,off+C,none⟩=some v
end Go.Proofs.YtkcmamepoplcdaaGreatDoor
