/-
  The model writes a line (DskText).
-/
import Derived.Test.YtkcmamepoplcdaaGreatDoorXag
set_option maxHeartbeats 8000000
set_option maxRecDepth 100000
namespace Go.Proofs.YtkcmamepoplcdaaGreatDoor
open Go.RowKit
set_option linter.unusedVariables false
set_option linter.unusedSimpArgs false
theorem nC {x:Int} (h0:0≤x) (h5:x≤5) (w:World) (g:Nat) (hc:w.cell? ⟨g,0,none⟩=some (.int .u8 (65+x))):(convert 35 9 (.slice (some ⟨g,0,none⟩) 1 1)).run Tryz.prog w= .ok (.string ⟨#[cQ x]⟩) w:=by
 have e1:((cQ x).toNat:Int)=65+x:=by unfold cQ;rw[UInt8.toNat_ofNat'];omega
 exact run_convert_bytes_back _ _ _ 5 ⟨g,0,none⟩ 1 [cQ x] Tryz.underlying35 Tryz.underlying5 Tryz.underlying9 (fun j hj=>by
  have hj0:j=0:=by simpa using hj
  subst hj0;show w.cell? ⟨g,0,none⟩=_
  rw[hc,←e1]
  rfl)
theorem cM {x:Int} (h0:0≤x) (h5:x≤5) (V:World) (g:Nat) (hg:g=V.heap.size) (t:TypeId):(convert 35 9 (.slice (some ⟨g,0,none⟩) 1 1)).run Tryz.prog (V.alloc (.cells #[.int .u8 (65+x)] t)).drew= .ok (.string ⟨#[cQ x]⟩) (V.alloc (.cells #[.int .u8 (65+x)] t)).drew:=by
 subst hg;refine nC h0 h5 _ _ ?_;show(V.alloc _).cell? _=_
 rw[World.cell?_alloc_at _ _ _ _ rfl];rfl
theorem kK (w:World):Calls Tryz.prog 32 #[] w fun e w'=>e= .returned (.slice (some ⟨w.heap.size,0,none⟩) 9 9)∧w'=w.alloc (.cells #[.string ⟨#[]⟩,.string ⟨#[115,101,116]⟩,.string ⟨#[97,100,100]⟩,.string ⟨#[109,117,108]⟩,.string ⟨#[97,112,97,114,116]⟩,.string ⟨#[100,111]⟩,.string ⟨#[114,111,117,110,100]⟩,.string ⟨#[98,97,99,107]⟩,.string ⟨#[115,104,111,119]⟩] 9):=by go_enter Tryz.func32,Tryz.ntmps32;go_wp2;go_ret;exact⟨rfl,rfl⟩
theorem dX (k:Int) (hk:1≤k∧k≤8) (w:World):Calls Tryz.prog 33 #[.int .i64 k] w fun e w'=>e= .returned (.int .i64 (dR k))∧w'=w:=by
 rcases(show k=1∨k=2∨k=3∨k=4∨k=5∨k=6∨k=7∨k=8 by omega)with rfl|rfl|rfl|rfl|rfl|rfl|rfl|rfl
 all_goals(
  go_enter Tryz.func33,Tryz.ntmps33;go_wp2;go_ret
  exact⟨rfl,rfl⟩)
abbrev L5 (u:World) (b:Nat) (k to a b':Int) (pa:Option Addr) (n cap:Nat):Prop:=u.cell? ⟨b,0,none⟩=some (.int .i64 k)∧u.cell? ⟨b,1,none⟩=some (.int .i64 to)∧u.cell? ⟨b,2,none⟩=some (.int .i64 a)∧u.cell? ⟨b,3,none⟩=some (.int .i64 b')∧u.cell? ⟨b,4,none⟩=some (.slice pa n cap)
theorem aB {u u':World} {B b:Nat} {k to a b':Int} {pa:Option Addr} {n cap:Nat} (h:L5 u b k to a b' pa n cap) (hb:Below B u u') (hn:b<B):L5 u' b k to a b' pa n cap:=
 ⟨(hb.cell (p:=⟨b,0,none⟩) hn).trans h.1,(hb.cell (p:=⟨b,1,none⟩) hn).trans h.2.1,(hb.cell (p:=⟨b,2,none⟩) hn).trans h.2.2.1,(hb.cell (p:=⟨b,3,none⟩) hn).trans h.2.2.2.1,(hb.cell (p:=⟨b,4,none⟩) hn).trans h.2.2.2.2⟩
theorem kI (w:World) (k to a b:Int) (pa:Option Addr) (n cap:Nat):L5 (w.alloc (.cells #[.int .i64 k,.int .i64 to,.int .i64 a,.int .i64 b,.slice pa n cap] 24)) w.heap.size k to a b pa n cap:=
 ⟨by rw[World.cell?_alloc_at _ _ _ _ rfl];rfl,by rw[World.cell?_alloc_at _ _ _ _ rfl];rfl,by rw[World.cell?_alloc_at _ _ _ _ rfl];rfl,by rw[World.cell?_alloc_at _ _ _ _ rfl];rfl,by rw[World.cell?_alloc_at _ _ _ _ rfl];rfl⟩
theorem aP {a w:World} {o:Obj} (h:Below a.heap.size a w):Below a.heap.size a (w.alloc o):=h.alloc h.size o
theorem lE {a w:World} (h:Below a.heap.size a w):Below a.heap.size a w.drew:=h.drew
theorem aE {u:World} {b:Nat} {k to a b':Int} {pa:Option Addr} {n cap:Nat} (h:L5 u b k to a b' pa n cap):L5 u.drew b k to a b' pa n cap:=h
theorem TF (k:Int) (hk:k<1∨(1≤k∧8<k)) (to a b:Int) (pa:Option Addr) (n cap:Nat) (f:Nat→T) (w:World) (h:Rd w pa n cap f):Calls Tryz.prog 23 #[.agg #[.int .i64 k,.int .i64 to,.int .i64 a,.int .i64 b,.slice pa n cap]] w fun r w'=>r= .returned (.string ⟨(dW k to a b n f).toArray⟩)∧Below w.heap.size w w':=by
 have hB0:=aF w (.cells #[.int .i64 k,.int .i64 to,.int .i64 a,.int .i64 b,.slice pa n cap] 24);have HL0:=aA (kI w k to a b pa n cap)
 have HRD:=aA (h.below hB0);have HB0:=aA hB0
 have hnI:(n:Int)≤9223372036854775807:=by have:=h.2.1;omega
 clear hB0 h;obtain⟨R,hR⟩:∃R,dW k to a b n f=R:=⟨_,rfl⟩
 rw[hR];have HR:=aA hR
 clear hR;have HZ:Hid (R=[]):=by rw[←HR.out];exact aA (aS (aT (fun q=>by have:=q.1;omega)))
 go_enter Tryz.func23,Tryz.ntmps23;go_wp2_with (go_at_call 54;first|(refine(aM _ _ _ _ (by omega) (by omega)).mono ?_;rintro e w' ⟨rfl,rfl⟩)|(refine(aJ _ _ _ _ (by omega)).mono ?_;rintro e w' ⟨rfl,rfl⟩));go_ret;exact⟨by rw[HZ.out];rfl,HB0.out⟩
theorem TG (to a b:Int) (pa:Option Addr) (n cap:Nat) (f:Nat→T) (w:World) (h:Rd w pa n cap f):Calls Tryz.prog 23 #[.agg #[.int .i64 1,.int .i64 to,.int .i64 a,.int .i64 b,.slice pa n cap]] w fun r w'=>r= .returned (.string ⟨(dW 1 to a b n f).toArray⟩)∧Below w.heap.size w w':=by
 have hB0:=aF w (.cells #[.int .i64 1,.int .i64 to,.int .i64 a,.int .i64 b,.slice pa n cap] 24);have HL0:=aA (kI w 1 to a b pa n cap)
 have HRD:=aA (h.below hB0);have HB0:=aA hB0
 have hnI:(n:Int)≤9223372036854775807:=by have:=h.2.1;omega
 clear hB0 h;obtain⟨R,hR⟩:∃R,dW 1 to a b n f=R:=⟨_,rfl⟩
 rw[hR];have HR:=aA hR
 clear hR;by_cases h1:to<0∨(0≤to∧5<to)
 ·have HZ:Hid (R=[]):=by rw[←HR.out];exact aA (aS (aT (fun q=>by have:=q.2.1;omega)))
  go_enter Tryz.func23,Tryz.ntmps23;go_wp2_with (go_at_call 54;first|(refine(aM _ _ _ _ (by omega) (by omega)).mono ?_;rintro e w' ⟨rfl,rfl⟩)|(refine(aJ _ _ _ _ (by omega)).mono ?_;rintro e w' ⟨rfl,rfl⟩));go_ret;exact⟨by rw[HZ.out];rfl,HB0.out⟩
 by_cases h2:a<0∨(0≤a∧5<a)
 ·have HZ:Hid (R=[]):=by rw[←HR.out];exact aA (aS (aT (fun q=>by have:=q.2.2.1;omega)))
  go_enter Tryz.func23,Tryz.ntmps23;go_wp2_with (go_at_call 54;first|(refine(aM _ _ _ _ (by omega) (by omega)).mono ?_;rintro e w' ⟨rfl,rfl⟩)|(refine(aJ _ _ _ _ (by omega)).mono ?_;rintro e w' ⟨rfl,rfl⟩));go_ret;exact⟨by rw[HZ.out];rfl,HB0.out⟩
 by_cases h3:b<0∨(0≤b∧5<b)
 ·have HZ:Hid (R=[]):=by rw[←HR.out];exact aA (aS (aT (fun q=>by have:=q.2.2.2.1;omega)))
  go_enter Tryz.func23,Tryz.ntmps23;go_wp2_with (go_at_call 54;first|(refine(aM _ _ _ _ (by omega) (by omega)).mono ?_;rintro e w' ⟨rfl,rfl⟩)|(refine(aJ _ _ _ _ (by omega)).mono ?_;rintro e w' ⟨rfl,rfl⟩));go_ret;exact⟨by rw[HZ.out];rfl,HB0.out⟩
 obtain⟨ok,hok⟩:∃x,aH n f=x:=⟨_,rfl⟩
 have HC:=aA (aY _ pa n cap f HRD.out);rw[hok]at HC;have t0:0≤to:=by omega
 have t5:to≤5:=by omega
 have a0:0≤a:=by omega
 have a5:a≤5:=by omega
 have b0:0≤b:=by omega
 have b5:b≤5:=by omega
 clear h1 h2 h3;have HOK:=aA hok
 clear hok;cases ok
 ·have HZ:Hid (R=[]):=by rw[←HR.out];exact aA (aS (aT (fun q=>by have:=q.2.2.2.2.1;rw[HOK.out]at this;cases this)))
  go_enter Tryz.func23,Tryz.ntmps23;go_wp2_with (go_at_call 54;first|(refine(aM _ _ _ _ (by omega) (by omega)).mono ?_;rintro e w' ⟨rfl,rfl⟩)|(refine(aJ _ _ _ _ (by omega)).mono ?_;rintro e w' ⟨rfl,rfl⟩));refine HC.out.mono ?_;rintro r w1 ⟨rfl,hb1⟩;have HB1:=aA (aC HB0.out hb1)
  clear hb1;go_wp2;go_ret;exact⟨by rw[HZ.out];rfl,HB1.out⟩
 ·skip
  by_cases ha:¬a=0
  ·have HZ:Hid (R=[]):=by rw[←HR.out];exact aA (aS (aT (fun q=>ha (by have:=q.2.2.2.2.2.1;revert this;simp[dR]))))
   have hab:(a !=0)=true:=by simp[ha]
   go_enter Tryz.func23,Tryz.ntmps23;go_wp2_with (go_at_call 54;first|(refine(aM _ _ _ _ (by omega) (by omega)).mono ?_;rintro e w' ⟨rfl,rfl⟩)|(refine(aJ _ _ _ _ (by omega)).mono ?_;rintro e w' ⟨rfl,rfl⟩));refine HC.out.mono ?_;rintro r w1 ⟨rfl,hb1⟩;have HB1:=aA (aC HB0.out hb1)
   have HRD1:=aA (HRD.out.below hb1);have HL1:=aA (aB HL0.out hb1 (by simp))
   have hlt1:w.heap.size<w1.heap.size:=eB (by simp) hb1.size;clear hb1 HC HL0 HB0 HRD;obtain⟨l0,l1,l2,l3,l4⟩:=HL1.out;go_wp2_with fail;refine(dX 1 (by omega) _).mono ?_;rintro r w' ⟨rfl,hw'⟩;obtain rfl:=hw'.symm;clear hw';rw[show((dR 1:Nat):Int)=1 from rfl];go_wp2;go_ret;exact⟨by rw[HZ.out];rfl,HB1.out⟩
  have ha0:Hid (a=0):=aA (by omega);clear ha;by_cases hb:¬b=0
  ·have HZ:Hid (R=[]):=by rw[←HR.out];exact aA (aS (aT (fun q=>hb (by have:=q.2.2.2.2.2.2.1;revert this;simp[dR]))))
   have hbb:(b !=0)=true:=by simp[hb]
   go_enter Tryz.func23,Tryz.ntmps23;go_wp2_with (go_at_call 54;first|(refine(aM _ _ _ _ (by omega) (by omega)).mono ?_;rintro e w' ⟨rfl,rfl⟩)|(refine(aJ _ _ _ _ (by omega)).mono ?_;rintro e w' ⟨rfl,rfl⟩));refine HC.out.mono ?_;rintro r w1 ⟨rfl,hb1⟩;have HB1:=aA (aC HB0.out hb1)
   have HRD1:=aA (HRD.out.below hb1);have HL1:=aA (aB HL0.out hb1 (by simp))
   have hlt1:w.heap.size<w1.heap.size:=eB (by simp) hb1.size;clear hb1 HC HL0 HB0 HRD;obtain⟨l0,l1,l2,l3,l4⟩:=HL1.out;go_wp2_with fail;refine(dX 1 (by omega) _).mono ?_;rintro r w' ⟨rfl,hw'⟩;obtain rfl:=hw'.symm;clear hw';rw[show((dR 1:Nat):Int)=1 from rfl];go_wp2;go_ret;exact⟨by rw[HZ.out];rfl,HB1.out⟩
  have hb0:Hid (b=0):=aA (by omega);clear hb;have haq:(a !=0)=false:=by simp[ha0.out]
  have hbq:(b !=0)=false:=by simp[hb0.out]
  have HW:Hid (uR 1 to a b n f=true):=aA (decide_eq_true ⟨⟨by omega,by omega⟩,⟨t0,t5⟩,⟨a0,a5⟩,⟨b0,b5⟩,HOK.out,.inr ha0.out,.inr hb0.out,.inl rfl⟩);obtain⟨PT,hPT⟩:∃S,cO n f=S:=⟨_,rfl⟩
  have hPl:PT.length≤6801:=by
   rw[←hPT,cO];rw[if_pos HOK.out];split
   ·simp
   ·have:=nM n (fun i hi=>(cJ HOK.out).2 i hi);have:=(cJ HOK.out).1
    omega
  have HRAW:Hid (gC 1 to a b n f=[115,101,116]++[32]++[cQ to]++[32]++PT):=by rw[RW,hPT];exact aA rfl
  have HTX:=aA (fun(u:World) (hu:Rd u pa n cap f)=>rW u pa n cap f hu);rw[hPT]at HTX;clear hPT;have hcv:=fun(u:World) (g:Nat) hc=>nC t0 t5 u g hc
  have hwto:IntKind.i64.wrap (65+to)=65+to:=by rw[IntKind.wrap_i64];omega
  have hvto:IntKind.u8.wrap (65+to)=65+to:=by rw[IntKind.wrap_u8];omega
  have hwa:IntKind.i64.wrap (65+a)=65+a:=by rw[IntKind.wrap_i64];omega
  have hva:IntKind.u8.wrap (65+a)=65+a:=by rw[IntKind.wrap_u8];omega
  have hwb:IntKind.i64.wrap (65+b)=65+b:=by rw[IntKind.wrap_i64];omega
  have hvb:IntKind.u8.wrap (65+b)=65+b:=by rw[IntKind.wrap_u8];omega
  go_enter Tryz.func23,Tryz.ntmps23;go_wp2_with (go_at_call 54;first|(refine(aM _ _ _ _ (by omega) (by omega)).mono ?_;rintro e w' ⟨rfl,rfl⟩)|(refine(aJ _ _ _ _ (by omega)).mono ?_;rintro e w' ⟨rfl,rfl⟩));refine HC.out.mono ?_;rintro r w1 ⟨rfl,hb1⟩;have HB1:=aA (aC HB0.out hb1)
  have HRD1:=aA (HRD.out.below hb1);have HL1:=aA (aB HL0.out hb1 (by simp))
  have hlt1:w.heap.size<w1.heap.size:=eB (by simp) hb1.size;clear hb1 HC HL0 HB0 HRD;obtain⟨l0,l1,l2,l3,l4⟩:=HL1.out;go_wp2_with fail;refine(dX 1 (by omega) _).mono ?_;rintro r w' ⟨rfl,hw'⟩;obtain rfl:=hw'.symm;clear hw';rw[show((dR 1:Nat):Int)=1 from rfl];have HS1:=HL1
  have HNA:=aA (fun u=>kK u);go_wp2_with fail;have hl5:L5 w1 w.heap.size 1 to a b pa n cap:=⟨l0,l1,l2,l3,l4⟩
  have HL5:=aA hl5;have HLT:=aA hlt1
  clear l0 l1 l2 l3 l4 hl5;rename_i K0 hK0;refine wp_region_held_drew (S:=fun u=>L5 u w.heap.size 1 to a b pa n cap) (by kernel_rfl) (by first|with_reducible exact HL5.out|with_reducible exact aE HL5.out|with_reducible exact aB HL5.out ((aD _ _).alloc (Nat.le_refl _) _) HLT.out|with_reducible exact aB HL5.out (((aD _ _).alloc (Nat.le_refl _) _).drew) HLT.out|with_reducible exact aB HL5.out (((aD _ _).alloc (Nat.le_refl _) _).alloc (by simp) _) HLT.out|with_reducible exact aB HL5.out ((((aD _ _).alloc (Nat.le_refl _) _).alloc (by simp) _).drew) HLT.out|with_reducible exact aB HL5.out ((((aD _ _).drew).alloc (by simp) _).alloc (by simp) _) HLT.out|with_reducible exact aB HL5.out (((aD _ _).drew).alloc (by simp) _) HLT.out) (fun hHeld=>?_);refine wpAnyH_take (i:=1) (v:=?_) rfl (by kernel_rfl) (by kernel_rfl) (by kernel_rfl) (fun _ _ _ h=>h) (Or.inl ⟨by rfl,?_⟩) (by assumption) ?_;rotate_left
  ·(intro w9 hSw;(try dsimp only at hSw);go_simp)<;>with_reducible rfl
  try simp only[Act.put,aI]
  refine wpAnyH_take (i:=2) (v:=?_) rfl (by kernel_rfl) (by kernel_rfl) (by kernel_rfl) (fun _ _ _ h=>h) (Or.inl ⟨by rfl,?_⟩) (by assumption) ?_;rotate_left
  ·(intro w9 hSw;(try dsimp only at hSw);go_simp)<;>with_reducible rfl
  try simp only[Act.put,aI]
  refine wpAnyH_take (i:=6) (v:=?_) rfl (by kernel_rfl) (by kernel_rfl) (by kernel_rfl) (fun _ _ _ h=>h) (Or.inl ⟨by rfl,?_⟩) (by assumption) ?_;rotate_left
  ·(intro w9 hSw;(try dsimp only at hSw);go_simp)<;>with_reducible rfl
  try simp only[Act.put,aI]
  refine wpAnyH_take (i:=7) (v:=?_) rfl (by kernel_rfl) (by kernel_rfl) (by kernel_rfl) (fun _ _ _ h=>h) (Or.inl ⟨by rfl,?_⟩) (by assumption) ?_;rotate_left
  ·(intro w9 hSw;(try dsimp only at hSw);go_simp)<;>with_reducible rfl
  try simp only[Act.put,aI]
  refine wpAnyH_take (i:=8) (v:=?_) rfl (by kernel_rfl) (by kernel_rfl) (by kernel_rfl) (fun _ _ _ h=>h) (Or.inl ⟨by rfl,?_⟩) (by assumption) ?_;rotate_left
  ·(intro w9 hSw;(try dsimp only at hSw);go_simp)<;>with_reducible rfl
  try simp only[Act.put,aI]
  refine wpAnyH_take (i:=9) (v:=?_) rfl (by kernel_rfl) (by kernel_rfl) (by kernel_rfl) (fun _ _ _ h=>h) (Or.inl ⟨by rfl,?_⟩) (by assumption) ?_;rotate_left
  ·(intro w9 hSw;(try dsimp only at hSw);go_simp)<;>with_reducible rfl
  try simp only[Act.put,aI]
  refine wpAnyH_ready (rs:=[0,10]) (by kernel_rfl) (by simp) ?_;refine AllReadyH.cons rfl (fun K hK=>?_) ?_;rotate_left;refine AllReadyH.cons rfl (fun K hK=>?_) AllReadyH.nil;go_simp
  (repeat(rename_i hwq;clear hwq))
  refine hK.out _ _ (by first|with_reducible exact HL5.out|with_reducible exact aE HL5.out|with_reducible exact aB HL5.out ((aD _ _).alloc (Nat.le_refl _) _) HLT.out|with_reducible exact aB HL5.out (((aD _ _).alloc (Nat.le_refl _) _).drew) HLT.out|with_reducible exact aB HL5.out (((aD _ _).alloc (Nat.le_refl _) _).alloc (by simp) _) HLT.out|with_reducible exact aB HL5.out ((((aD _ _).alloc (Nat.le_refl _) _).alloc (by simp) _).drew) HLT.out|with_reducible exact aB HL5.out ((((aD _ _).drew).alloc (by simp) _).alloc (by simp) _) HLT.out|with_reducible exact aB HL5.out (((aD _ _).drew).alloc (by simp) _) HLT.out) (fun hHeld2=>?_);clear hK K hHeld;have hHeld:=hHeld2
  clear hHeld2;try simp only[Act.put,aI]
  refine wpAnyH_ready (rs:=[0,11]) (by kernel_rfl) (by simp) ?_;refine AllReadyH.cons rfl (fun K hK=>?_) ?_;rotate_left;refine AllReadyH.cons rfl (fun K hK=>?_) AllReadyH.nil;go_simp
  (repeat(rename_i hwq;clear hwq))
  refine hK.out _ _ (by first|with_reducible exact HL5.out|with_reducible exact aE HL5.out|with_reducible exact aB HL5.out ((aD _ _).alloc (Nat.le_refl _) _) HLT.out|with_reducible exact aB HL5.out (((aD _ _).alloc (Nat.le_refl _) _).drew) HLT.out|with_reducible exact aB HL5.out (((aD _ _).alloc (Nat.le_refl _) _).alloc (by simp) _) HLT.out|with_reducible exact aB HL5.out ((((aD _ _).alloc (Nat.le_refl _) _).alloc (by simp) _).drew) HLT.out|with_reducible exact aB HL5.out ((((aD _ _).drew).alloc (by simp) _).alloc (by simp) _) HLT.out|with_reducible exact aB HL5.out (((aD _ _).drew).alloc (by simp) _) HLT.out) (fun hHeld2=>?_);clear hK K hHeld;have hHeld:=hHeld2
  clear hHeld2;try simp only[Act.put,aI]
  refine wpAnyH_ready (rs:=[0]) (by kernel_rfl) (by simp) ?_;refine AllReadyH.cons rfl (fun K hK=>?_) AllReadyH.nil;go_simp
  (repeat(rename_i hwq;clear hwq))
  go_wp2_with (go_at_call 32;refine(HNA.out _).mono ?_;rintro r w' ⟨rfl,hw'⟩;rw[hw'];clear hw');refine hK.out _ _ (by first|with_reducible exact HL5.out|with_reducible exact aE HL5.out|with_reducible exact aB HL5.out ((aD _ _).alloc (Nat.le_refl _) _) HLT.out|with_reducible exact aB HL5.out (((aD _ _).alloc (Nat.le_refl _) _).drew) HLT.out|with_reducible exact aB HL5.out (((aD _ _).alloc (Nat.le_refl _) _).alloc (by simp) _) HLT.out|with_reducible exact aB HL5.out ((((aD _ _).alloc (Nat.le_refl _) _).alloc (by simp) _).drew) HLT.out|with_reducible exact aB HL5.out ((((aD _ _).drew).alloc (by simp) _).alloc (by simp) _) HLT.out|with_reducible exact aB HL5.out (((aD _ _).drew).alloc (by simp) _) HLT.out) (fun hHeld2=>?_);clear hK K hHeld;have hHeld:=hHeld2
  clear hHeld2;try simp only[Act.put,aI]
  refine wpAnyH_take (i:=3) (v:=?_) rfl (by kernel_rfl) (by kernel_rfl) (by kernel_rfl) (fun _ _ _ h=>h) (Or.inl ⟨by rfl,?_⟩) (by assumption) ?_;rotate_left
  ·(intro w9 hSw;(try dsimp only at hSw);go_simp)<;>with_reducible rfl
  try simp only[Act.put,aI]
  refine wpAnyH_ready (rs:=[4]) (by kernel_rfl) (by simp) ?_;refine AllReadyH.cons rfl (fun K hK=>?_) AllReadyH.nil;go_simp
  (repeat(rename_i hwq;clear hwq))
  refine hK.out _ _ (by first|with_reducible exact HL5.out|with_reducible exact aE HL5.out|with_reducible exact aB HL5.out ((aD _ _).alloc (Nat.le_refl _) _) HLT.out|with_reducible exact aB HL5.out (((aD _ _).alloc (Nat.le_refl _) _).drew) HLT.out|with_reducible exact aB HL5.out (((aD _ _).alloc (Nat.le_refl _) _).alloc (by simp) _) HLT.out|with_reducible exact aB HL5.out ((((aD _ _).alloc (Nat.le_refl _) _).alloc (by simp) _).drew) HLT.out|with_reducible exact aB HL5.out ((((aD _ _).drew).alloc (by simp) _).alloc (by simp) _) HLT.out|with_reducible exact aB HL5.out (((aD _ _).drew).alloc (by simp) _) HLT.out) (fun hHeld2=>?_);clear hK K hHeld;have hHeld:=hHeld2
  clear hHeld2;try simp only[Act.put,aI]
  refine wpAnyH_take (i:=5) (v:=?_) rfl (by kernel_rfl) (by kernel_rfl) (by kernel_rfl) (fun _ _ _ h=>h) (Or.inl ⟨by rfl,?_⟩) (by assumption) ?_;rotate_left
  ·(intro w9 hSw;(try dsimp only at hSw);go_simp)<;>with_reducible rfl
  try simp only[Act.put,aI]
  refine wpAnyH_take (i:=12) (v:=?_) rfl (by kernel_rfl) (by kernel_rfl) (by kernel_rfl) (fun _ _ _ h=>h) (Or.inl ⟨by rfl,?_⟩) (by assumption) ?_;rotate_left
  ·(intro w9 hSw;(try dsimp only at hSw);go_simp)<;>with_reducible rfl
  try simp only[Act.put,aI]
  refine wpAnyH_take (i:=13) (v:=?_) rfl (by kernel_rfl) (by kernel_rfl) (by kernel_rfl) (fun _ _ _ h=>h) (Or.inl ⟨by rfl,?_⟩) (by assumption) ?_;rotate_left
  ·(intro w9 hSw;(try dsimp only at hSw);go_simp)<;>with_reducible rfl
  try simp only[Act.put,aI]
  refine wpAnyH_done (by kernel_rfl) ?_ _;rotate_left;go_simp
  (repeat(rename_i hwq;clear hwq))
  go_wp2_with (go_at_call 32;refine(HNA.out _).mono ?_;rintro r w' ⟨rfl,hw'⟩;rw[hw'];clear hw');refine hK.out _ _ (by first|with_reducible exact HL5.out|with_reducible exact aE HL5.out|with_reducible exact aB HL5.out ((aD _ _).alloc (Nat.le_refl _) _) HLT.out|with_reducible exact aB HL5.out (((aD _ _).alloc (Nat.le_refl _) _).drew) HLT.out|with_reducible exact aB HL5.out (((aD _ _).alloc (Nat.le_refl _) _).alloc (by simp) _) HLT.out|with_reducible exact aB HL5.out ((((aD _ _).alloc (Nat.le_refl _) _).alloc (by simp) _).drew) HLT.out|with_reducible exact aB HL5.out ((((aD _ _).drew).alloc (by simp) _).alloc (by simp) _) HLT.out|with_reducible exact aB HL5.out (((aD _ _).drew).alloc (by simp) _) HLT.out) (fun hHeld2=>?_);clear hK K hHeld;have hHeld:=hHeld2
  clear hHeld2;try simp only[Act.put,aI]
  refine wpAnyH_take (i:=3) (v:=?_) rfl (by kernel_rfl) (by kernel_rfl) (by kernel_rfl) (fun _ _ _ h=>h) (Or.inl ⟨by rfl,?_⟩) (by assumption) ?_;rotate_left
  ·(intro w9 hSw;(try dsimp only at hSw);go_simp)<;>with_reducible rfl
  try simp only[Act.put,aI]
  refine wpAnyH_ready (rs:=[4,10]) (by kernel_rfl) (by simp) ?_;refine AllReadyH.cons rfl (fun K hK=>?_) ?_;rotate_left;refine AllReadyH.cons rfl (fun K hK=>?_) AllReadyH.nil;go_simp
  (repeat(rename_i hwq;clear hwq))
  refine hK.out _ _ (by first|with_reducible exact HL5.out|with_reducible exact aE HL5.out|with_reducible exact aB HL5.out ((aD _ _).alloc (Nat.le_refl _) _) HLT.out|with_reducible exact aB HL5.out (((aD _ _).alloc (Nat.le_refl _) _).drew) HLT.out|with_reducible exact aB HL5.out (((aD _ _).alloc (Nat.le_refl _) _).alloc (by simp) _) HLT.out|with_reducible exact aB HL5.out ((((aD _ _).alloc (Nat.le_refl _) _).alloc (by simp) _).drew) HLT.out|with_reducible exact aB HL5.out ((((aD _ _).drew).alloc (by simp) _).alloc (by simp) _) HLT.out|with_reducible exact aB HL5.out (((aD _ _).drew).alloc (by simp) _) HLT.out) (fun hHeld2=>?_);clear hK K hHeld;have hHeld:=hHeld2
  clear hHeld2;try simp only[Act.put,aI]
  refine wpAnyH_ready (rs:=[4,11]) (by kernel_rfl) (by simp) ?_;refine AllReadyH.cons rfl (fun K hK=>?_) ?_;rotate_left;refine AllReadyH.cons rfl (fun K hK=>?_) AllReadyH.nil;go_simp
  (repeat(rename_i hwq;clear hwq))
  refine hK.out _ _ (by first|with_reducible exact HL5.out|with_reducible exact aE HL5.out|with_reducible exact aB HL5.out ((aD _ _).alloc (Nat.le_refl _) _) HLT.out|with_reducible exact aB HL5.out (((aD _ _).alloc (Nat.le_refl _) _).drew) HLT.out|with_reducible exact aB HL5.out (((aD _ _).alloc (Nat.le_refl _) _).alloc (by simp) _) HLT.out|with_reducible exact aB HL5.out ((((aD _ _).alloc (Nat.le_refl _) _).alloc (by simp) _).drew) HLT.out|with_reducible exact aB HL5.out ((((aD _ _).drew).alloc (by simp) _).alloc (by simp) _) HLT.out|with_reducible exact aB HL5.out (((aD _ _).drew).alloc (by simp) _) HLT.out) (fun hHeld2=>?_);clear hK K hHeld;have hHeld:=hHeld2
  clear hHeld2;try simp only[Act.put,aI]
  refine wpAnyH_ready (rs:=[4]) (by kernel_rfl) (by simp) ?_;refine AllReadyH.cons rfl (fun K hK=>?_) AllReadyH.nil;go_simp
  (repeat(rename_i hwq;clear hwq))
  refine hK.out _ _ (by first|with_reducible exact HL5.out|with_reducible exact aE HL5.out|with_reducible exact aB HL5.out ((aD _ _).alloc (Nat.le_refl _) _) HLT.out|with_reducible exact aB HL5.out (((aD _ _).alloc (Nat.le_refl _) _).drew) HLT.out|with_reducible exact aB HL5.out (((aD _ _).alloc (Nat.le_refl _) _).alloc (by simp) _) HLT.out|with_reducible exact aB HL5.out ((((aD _ _).alloc (Nat.le_refl _) _).alloc (by simp) _).drew) HLT.out|with_reducible exact aB HL5.out ((((aD _ _).drew).alloc (by simp) _).alloc (by simp) _) HLT.out|with_reducible exact aB HL5.out (((aD _ _).drew).alloc (by simp) _) HLT.out) (fun hHeld2=>?_);clear hK K hHeld;have hHeld:=hHeld2
  clear hHeld2;try simp only[Act.put,aI]
  refine wpAnyH_take (i:=5) (v:=?_) rfl (by kernel_rfl) (by kernel_rfl) (by kernel_rfl) (fun _ _ _ h=>h) (Or.inl ⟨by rfl,?_⟩) (by assumption) ?_;rotate_left
  ·(intro w9 hSw;(try dsimp only at hSw);go_simp)<;>with_reducible rfl
  try simp only[Act.put,aI]
  refine wpAnyH_take (i:=12) (v:=?_) rfl (by kernel_rfl) (by kernel_rfl) (by kernel_rfl) (fun _ _ _ h=>h) (Or.inl ⟨by rfl,?_⟩) (by assumption) ?_;rotate_left
  ·(intro w9 hSw;(try dsimp only at hSw);go_simp)<;>with_reducible rfl
  try simp only[Act.put,aI]
  refine wpAnyH_take (i:=13) (v:=?_) rfl (by kernel_rfl) (by kernel_rfl) (by kernel_rfl) (fun _ _ _ h=>h) (Or.inl ⟨by rfl,?_⟩) (by assumption) ?_;rotate_left
  ·(intro w9 hSw;(try dsimp only at hSw);go_simp)<;>with_reducible rfl
  try simp only[Act.put,aI]
  refine wpAnyH_done (by kernel_rfl) ?_ _;rotate_left;go_simp
  (repeat(rename_i hwq;clear hwq))
  go_wp2_with (go_at_call 32;refine(HNA.out _).mono ?_;rintro r w' ⟨rfl,hw'⟩;rw[hw'];clear hw');refine hK.out _ _ (by first|with_reducible exact HL5.out|with_reducible exact aE HL5.out|with_reducible exact aB HL5.out ((aD _ _).alloc (Nat.le_refl _) _) HLT.out|with_reducible exact aB HL5.out (((aD _ _).alloc (Nat.le_refl _) _).drew) HLT.out|with_reducible exact aB HL5.out (((aD _ _).alloc (Nat.le_refl _) _).alloc (by simp) _) HLT.out|with_reducible exact aB HL5.out ((((aD _ _).alloc (Nat.le_refl _) _).alloc (by simp) _).drew) HLT.out|with_reducible exact aB HL5.out ((((aD _ _).drew).alloc (by simp) _).alloc (by simp) _) HLT.out|with_reducible exact aB HL5.out (((aD _ _).drew).alloc (by simp) _) HLT.out) (fun hHeld2=>?_);clear hK K hHeld;have hHeld:=hHeld2
  clear hHeld2;try simp only[Act.put,aI]
  refine wpAnyH_take (i:=3) (v:=?_) rfl (by kernel_rfl) (by kernel_rfl) (by kernel_rfl) (fun _ _ _ h=>h) (Or.inl ⟨by rfl,?_⟩) (by assumption) ?_;rotate_left
  ·(intro w9 hSw;(try dsimp only at hSw);go_simp)<;>with_reducible rfl
  try simp only[Act.put,aI]
  refine wpAnyH_ready (rs:=[4,11]) (by kernel_rfl) (by simp) ?_;refine AllReadyH.cons rfl (fun K hK=>?_) ?_;rotate_left;refine AllReadyH.cons rfl (fun K hK=>?_) AllReadyH.nil;go_simp
  (repeat(rename_i hwq;clear hwq))
  refine hK.out _ _ (by first|with_reducible exact HL5.out|with_reducible exact aE HL5.out|with_reducible exact aB HL5.out ((aD _ _).alloc (Nat.le_refl _) _) HLT.out|with_reducible exact aB HL5.out (((aD _ _).alloc (Nat.le_refl _) _).drew) HLT.out|with_reducible exact aB HL5.out (((aD _ _).alloc (Nat.le_refl _) _).alloc (by simp) _) HLT.out|with_reducible exact aB HL5.out ((((aD _ _).alloc (Nat.le_refl _) _).alloc (by simp) _).drew) HLT.out|with_reducible exact aB HL5.out ((((aD _ _).drew).alloc (by simp) _).alloc (by simp) _) HLT.out|with_reducible exact aB HL5.out (((aD _ _).drew).alloc (by simp) _) HLT.out) (fun hHeld2=>?_);clear hK K hHeld;have hHeld:=hHeld2
  clear hHeld2;try simp only[Act.put,aI]
  refine wpAnyH_ready (rs:=[4]) (by kernel_rfl) (by simp) ?_;refine AllReadyH.cons rfl (fun K hK=>?_) AllReadyH.nil;go_simp
  (repeat(rename_i hwq;clear hwq))
  refine hK.out _ _ (by first|with_reducible exact HL5.out|with_reducible exact aE HL5.out|with_reducible exact aB HL5.out ((aD _ _).alloc (Nat.le_refl _) _) HLT.out|with_reducible exact aB HL5.out (((aD _ _).alloc (Nat.le_refl _) _).drew) HLT.out|with_reducible exact aB HL5.out (((aD _ _).alloc (Nat.le_refl _) _).alloc (by simp) _) HLT.out|with_reducible exact aB HL5.out ((((aD _ _).alloc (Nat.le_refl _) _).alloc (by simp) _).drew) HLT.out|with_reducible exact aB HL5.out ((((aD _ _).drew).alloc (by simp) _).alloc (by simp) _) HLT.out|with_reducible exact aB HL5.out (((aD _ _).drew).alloc (by simp) _) HLT.out) (fun hHeld2=>?_);clear hK K hHeld;have hHeld:=hHeld2
  clear hHeld2;try simp only[Act.put,aI]
  refine wpAnyH_take (i:=5) (v:=?_) rfl (by kernel_rfl) (by kernel_rfl) (by kernel_rfl) (fun _ _ _ h=>h) (Or.inl ⟨by rfl,?_⟩) (by assumption) ?_;rotate_left
  ·(intro w9 hSw;(try dsimp only at hSw);go_simp)<;>with_reducible rfl
  try simp only[Act.put,aI]
  refine wpAnyH_take (i:=12) (v:=?_) rfl (by kernel_rfl) (by kernel_rfl) (by kernel_rfl) (fun _ _ _ h=>h) (Or.inl ⟨by rfl,?_⟩) (by assumption) ?_;rotate_left
  ·(intro w9 hSw;(try dsimp only at hSw);go_simp)<;>with_reducible rfl
  try simp only[Act.put,aI]
  refine wpAnyH_take (i:=13) (v:=?_) rfl (by kernel_rfl) (by kernel_rfl) (by kernel_rfl) (fun _ _ _ h=>h) (Or.inl ⟨by rfl,?_⟩) (by assumption) ?_;rotate_left
  ·(intro w9 hSw;(try dsimp only at hSw);go_simp)<;>with_reducible rfl
  try simp only[Act.put,aI]
  refine wpAnyH_done (by kernel_rfl) ?_ _;rotate_left;rotate_left;go_simp
  (repeat(rename_i hwq;clear hwq))
  refine hK.out _ _ (by first|with_reducible exact HL5.out|with_reducible exact aE HL5.out|with_reducible exact aB HL5.out ((aD _ _).alloc (Nat.le_refl _) _) HLT.out|with_reducible exact aB HL5.out (((aD _ _).alloc (Nat.le_refl _) _).drew) HLT.out|with_reducible exact aB HL5.out (((aD _ _).alloc (Nat.le_refl _) _).alloc (by simp) _) HLT.out|with_reducible exact aB HL5.out ((((aD _ _).alloc (Nat.le_refl _) _).alloc (by simp) _).drew) HLT.out|with_reducible exact aB HL5.out ((((aD _ _).drew).alloc (by simp) _).alloc (by simp) _) HLT.out|with_reducible exact aB HL5.out (((aD _ _).drew).alloc (by simp) _) HLT.out) (fun hHeld2=>?_);clear hK K hHeld;have hHeld:=hHeld2
  clear hHeld2;try simp only[Act.put,aI]
  refine wpAnyH_take (i:=5) (v:=?_) rfl (by kernel_rfl) (by kernel_rfl) (by kernel_rfl) (fun _ _ _ h=>h) (Or.inl ⟨by rfl,?_⟩) (by assumption) ?_;rotate_left
  ·(intro w9 hSw;(try dsimp only at hSw);go_simp)<;>with_reducible rfl
  try simp only[Act.put,aI]
  refine wpAnyH_ready (rs:=[10]) (by kernel_rfl) (by simp) ?_;refine AllReadyH.cons rfl (fun K hK=>?_) AllReadyH.nil;go_simp
  (repeat(rename_i hwq;clear hwq))
  refine hK.out _ _ (by first|with_reducible exact HL5.out|with_reducible exact aE HL5.out|with_reducible exact aB HL5.out ((aD _ _).alloc (Nat.le_refl _) _) HLT.out|with_reducible exact aB HL5.out (((aD _ _).alloc (Nat.le_refl _) _).drew) HLT.out|with_reducible exact aB HL5.out (((aD _ _).alloc (Nat.le_refl _) _).alloc (by simp) _) HLT.out|with_reducible exact aB HL5.out ((((aD _ _).alloc (Nat.le_refl _) _).alloc (by simp) _).drew) HLT.out|with_reducible exact aB HL5.out ((((aD _ _).drew).alloc (by simp) _).alloc (by simp) _) HLT.out|with_reducible exact aB HL5.out (((aD _ _).drew).alloc (by simp) _) HLT.out) (fun hHeld2=>?_);clear hK K hHeld;have hHeld:=hHeld2
  clear hHeld2;try simp only[Act.put,aI]
  refine wpAnyH_ready (rs:=[11]) (by kernel_rfl) (by simp) ?_;refine AllReadyH.cons rfl (fun K hK=>?_) AllReadyH.nil;go_simp
  (repeat(rename_i hwq;clear hwq))
  refine hK.out _ _ (by first|with_reducible exact HL5.out|with_reducible exact aE HL5.out|with_reducible exact aB HL5.out ((aD _ _).alloc (Nat.le_refl _) _) HLT.out|with_reducible exact aB HL5.out (((aD _ _).alloc (Nat.le_refl _) _).drew) HLT.out|with_reducible exact aB HL5.out (((aD _ _).alloc (Nat.le_refl _) _).alloc (by simp) _) HLT.out|with_reducible exact aB HL5.out ((((aD _ _).alloc (Nat.le_refl _) _).alloc (by simp) _).drew) HLT.out|with_reducible exact aB HL5.out ((((aD _ _).drew).alloc (by simp) _).alloc (by simp) _) HLT.out|with_reducible exact aB HL5.out (((aD _ _).drew).alloc (by simp) _) HLT.out) (fun hHeld2=>?_);clear hK K hHeld;have hHeld:=hHeld2
  clear hHeld2;try simp only[Act.put,aI]
  refine wpAnyH_take (i:=12) (v:=?_) rfl (by kernel_rfl) (by kernel_rfl) (by kernel_rfl) (fun _ _ _ h=>h) (Or.inl ⟨by rfl,?_⟩) (by assumption) ?_;rotate_left
  ·(intro w9 hSw;(try dsimp only at hSw);go_simp)<;>with_reducible rfl
  try simp only[Act.put,aI]
  refine wpAnyH_take (i:=13) (v:=?_) rfl (by kernel_rfl) (by kernel_rfl) (by kernel_rfl) (fun _ _ _ h=>h) (Or.inl ⟨by rfl,?_⟩) (by assumption) ?_;rotate_left
  ·(intro w9 hSw;(try dsimp only at hSw);go_simp)<;>with_reducible rfl
  try simp only[Act.put,aI]
  refine wpAnyH_done (by kernel_rfl) ?_ _;rotate_left;go_simp
  (repeat(rename_i hwq;clear hwq))
  refine hK.out _ _ (by first|with_reducible exact HL5.out|with_reducible exact aE HL5.out|with_reducible exact aB HL5.out ((aD _ _).alloc (Nat.le_refl _) _) HLT.out|with_reducible exact aB HL5.out (((aD _ _).alloc (Nat.le_refl _) _).drew) HLT.out|with_reducible exact aB HL5.out (((aD _ _).alloc (Nat.le_refl _) _).alloc (by simp) _) HLT.out|with_reducible exact aB HL5.out ((((aD _ _).alloc (Nat.le_refl _) _).alloc (by simp) _).drew) HLT.out|with_reducible exact aB HL5.out ((((aD _ _).drew).alloc (by simp) _).alloc (by simp) _) HLT.out|with_reducible exact aB HL5.out (((aD _ _).drew).alloc (by simp) _) HLT.out) (fun hHeld2=>?_);clear hK K hHeld;have hHeld:=hHeld2
  clear hHeld2;try simp only[Act.put,aI]
  refine wpAnyH_take (i:=5) (v:=?_) rfl (by kernel_rfl) (by kernel_rfl) (by kernel_rfl) (fun _ _ _ h=>h) (Or.inl ⟨by rfl,?_⟩) (by assumption) ?_;rotate_left
  ·(intro w9 hSw;(try dsimp only at hSw);go_simp)<;>with_reducible rfl
  try simp only[Act.put,aI]
  refine wpAnyH_ready (rs:=[11]) (by kernel_rfl) (by simp) ?_;refine AllReadyH.cons rfl (fun K hK=>?_) AllReadyH.nil;go_simp
  (repeat(rename_i hwq;clear hwq))
  refine hK.out _ _ (by first|with_reducible exact HL5.out|with_reducible exact aE HL5.out|with_reducible exact aB HL5.out ((aD _ _).alloc (Nat.le_refl _) _) HLT.out|with_reducible exact aB HL5.out (((aD _ _).alloc (Nat.le_refl _) _).drew) HLT.out|with_reducible exact aB HL5.out (((aD _ _).alloc (Nat.le_refl _) _).alloc (by simp) _) HLT.out|with_reducible exact aB HL5.out ((((aD _ _).alloc (Nat.le_refl _) _).alloc (by simp) _).drew) HLT.out|with_reducible exact aB HL5.out ((((aD _ _).drew).alloc (by simp) _).alloc (by simp) _) HLT.out|with_reducible exact aB HL5.out (((aD _ _).drew).alloc (by simp) _) HLT.out) (fun hHeld2=>?_);clear hK K hHeld;have hHeld:=hHeld2
  clear hHeld2;try simp only[Act.put,aI]
  refine wpAnyH_take (i:=12) (v:=?_) rfl (by kernel_rfl) (by kernel_rfl) (by kernel_rfl) (fun _ _ _ h=>h) (Or.inl ⟨by rfl,?_⟩) (by assumption) ?_;rotate_left
  ·(intro w9 hSw;(try dsimp only at hSw);go_simp)<;>with_reducible rfl
  try simp only[Act.put,aI]
  refine wpAnyH_take (i:=13) (v:=?_) rfl (by kernel_rfl) (by kernel_rfl) (by kernel_rfl) (fun _ _ _ h=>h) (Or.inl ⟨by rfl,?_⟩) (by assumption) ?_;rotate_left
  ·(intro w9 hSw;(try dsimp only at hSw);go_simp)<;>with_reducible rfl
  try simp only[Act.put,aI]
  refine wpAnyH_done (by kernel_rfl) ?_ _;rotate_left;rotate_left;go_simp
  (repeat(rename_i hwq;clear hwq))
  refine hK.out _ _ (by first|with_reducible exact HL5.out|with_reducible exact aE HL5.out|with_reducible exact aB HL5.out ((aD _ _).alloc (Nat.le_refl _) _) HLT.out|with_reducible exact aB HL5.out (((aD _ _).alloc (Nat.le_refl _) _).drew) HLT.out|with_reducible exact aB HL5.out (((aD _ _).alloc (Nat.le_refl _) _).alloc (by simp) _) HLT.out|with_reducible exact aB HL5.out ((((aD _ _).alloc (Nat.le_refl _) _).alloc (by simp) _).drew) HLT.out|with_reducible exact aB HL5.out ((((aD _ _).drew).alloc (by simp) _).alloc (by simp) _) HLT.out|with_reducible exact aB HL5.out (((aD _ _).drew).alloc (by simp) _) HLT.out) (fun hHeld2=>?_);clear hK K hHeld;have hHeld:=hHeld2
  clear hHeld2;try simp only[Act.put,aI]
  refine wpAnyH_take (i:=5) (v:=?_) rfl (by kernel_rfl) (by kernel_rfl) (by kernel_rfl) (fun _ _ _ h=>h) (Or.inl ⟨by rfl,?_⟩) (by assumption) ?_;rotate_left
  ·(intro w9 hSw;(try dsimp only at hSw);go_simp)<;>with_reducible rfl
  try simp only[Act.put,aI]
  refine wpAnyH_ready (rs:=[11]) (by kernel_rfl) (by simp) ?_;refine AllReadyH.cons rfl (fun K hK=>?_) AllReadyH.nil;go_simp
  (repeat(rename_i hwq;clear hwq))
  refine hK.out _ _ (by first|with_reducible exact HL5.out|with_reducible exact aE HL5.out|with_reducible exact aB HL5.out ((aD _ _).alloc (Nat.le_refl _) _) HLT.out|with_reducible exact aB HL5.out (((aD _ _).alloc (Nat.le_refl _) _).drew) HLT.out|with_reducible exact aB HL5.out (((aD _ _).alloc (Nat.le_refl _) _).alloc (by simp) _) HLT.out|with_reducible exact aB HL5.out ((((aD _ _).alloc (Nat.le_refl _) _).alloc (by simp) _).drew) HLT.out|with_reducible exact aB HL5.out ((((aD _ _).drew).alloc (by simp) _).alloc (by simp) _) HLT.out|with_reducible exact aB HL5.out (((aD _ _).drew).alloc (by simp) _) HLT.out) (fun hHeld2=>?_);clear hK K hHeld;have hHeld:=hHeld2
  clear hHeld2;try simp only[Act.put,aI]
  refine wpAnyH_take (i:=12) (v:=?_) rfl (by kernel_rfl) (by kernel_rfl) (by kernel_rfl) (fun _ _ _ h=>h) (Or.inl ⟨by rfl,?_⟩) (by assumption) ?_;rotate_left
  ·(intro w9 hSw;(try dsimp only at hSw);go_simp)<;>with_reducible rfl
  try simp only[Act.put,aI]
  refine wpAnyH_take (i:=13) (v:=?_) rfl (by kernel_rfl) (by kernel_rfl) (by kernel_rfl) (fun _ _ _ h=>h) (Or.inl ⟨by rfl,?_⟩) (by assumption) ?_;rotate_left
  ·(intro w9 hSw;(try dsimp only at hSw);go_simp)<;>with_reducible rfl
  try simp only[Act.put,aI]
  refine wpAnyH_done (by kernel_rfl) ?_ _;rotate_left
  all_goals(
   go_wp2_with fail;refine(HTX.out _ (HRD1.out.below ?_)).mono ?_
   ·repeat(first|with_reducible exact aD _ _|with_reducible refine lE ?_|with_reducible refine aP ?_)
   rintro r w9 ⟨rfl,hb9⟩
   have HB9:Hid (Below w.heap.size w w9):=aA (by
    refine aC ?_ hb9
    repeat(first|with_reducible exact HB1.out|with_reducible refine lE ?_|with_reducible refine aP ?_))
   clear hb9 HTX HRD1;by_cases h4:PT.length≤394
   ·have h4I:(PT.length:Int)≤394:=by omega
    have HF:Hid (R=gC 1 to a b n f):=by rw[←HR.out];exact aA (jG HW.out (by rw[HRAW.out];simp;omega))
    rw[HRAW.out]at HF;clear HR HW HRAW HNA;have h4J:¬(400:Int)<6+(PT.length:Int):=by omega
    go_wp2;go_ret;refine⟨congrArg (fun x=>Ending.returned (Value.string x)) ?_,HB9.out⟩;rw[HF.out];apply ByteArray.ext;simp[ByteArray.data_append]
   ·have h4I:¬(PT.length:Int)≤394:=by omega
    have HF:Hid (R=[]):=by rw[←HR.out];exact aA (rL (by rw[HRAW.out];simp;omega))
    clear HR HW HRAW HNA;have h4J:(400:Int)<6+(PT.length:Int):=by omega
    go_wp2;go_ret
    exact⟨by rw[HF.out];rfl,HB9.out⟩)
theorem TP (to a b:Int) (pa:Option Addr) (n cap:Nat) (f:Nat→T) (w:World) (h:Rd w pa n cap f):Calls Tryz.prog 23 #[.agg #[.int .i64 8,.int .i64 to,.int .i64 a,.int .i64 b,.slice pa n cap]] w fun r w'=>r= .returned (.string ⟨(dW 8 to a b n f).toArray⟩)∧Below w.heap.size w w':=by
 have hB0:=aF w (.cells #[.int .i64 8,.int .i64 to,.int .i64 a,.int .i64 b,.slice pa n cap] 24);have HL0:=aA (kI w 8 to a b pa n cap)
 have HRD:=aA (h.below hB0);have HB0:=aA hB0
 have hnI:(n:Int)≤9223372036854775807:=by have:=h.2.1;omega
 clear hB0 h;obtain⟨R,hR⟩:∃R,dW 8 to a b n f=R:=⟨_,rfl⟩
 rw[hR];have HR:=aA hR
 clear hR;by_cases h1:to<0∨(0≤to∧5<to)
 ·have HZ:Hid (R=[]):=by rw[←HR.out];exact aA (aS (aT (fun q=>by have:=q.2.1;omega)))
  go_enter Tryz.func23,Tryz.ntmps23;go_wp2_with (go_at_call 54;first|(refine(aM _ _ _ _ (by omega) (by omega)).mono ?_;rintro e w' ⟨rfl,rfl⟩)|(refine(aJ _ _ _ _ (by omega)).mono ?_;rintro e w' ⟨rfl,rfl⟩));go_ret;exact⟨by rw[HZ.out];rfl,HB0.out⟩
 by_cases h2:a<0∨(0≤a∧5<a)
 ·have HZ:Hid (R=[]):=by rw[←HR.out];exact aA (aS (aT (fun q=>by have:=q.2.2.1;omega)))
  go_enter Tryz.func23,Tryz.ntmps23;go_wp2_with (go_at_call 54;first|(refine(aM _ _ _ _ (by omega) (by omega)).mono ?_;rintro e w' ⟨rfl,rfl⟩)|(refine(aJ _ _ _ _ (by omega)).mono ?_;rintro e w' ⟨rfl,rfl⟩));go_ret;exact⟨by rw[HZ.out];rfl,HB0.out⟩
 by_cases h3:b<0∨(0≤b∧5<b)
 ·have HZ:Hid (R=[]):=by rw[←HR.out];exact aA (aS (aT (fun q=>by have:=q.2.2.2.1;omega)))
  go_enter Tryz.func23,Tryz.ntmps23;go_wp2_with (go_at_call 54;first|(refine(aM _ _ _ _ (by omega) (by omega)).mono ?_;rintro e w' ⟨rfl,rfl⟩)|(refine(aJ _ _ _ _ (by omega)).mono ?_;rintro e w' ⟨rfl,rfl⟩));go_ret;exact⟨by rw[HZ.out];rfl,HB0.out⟩
 obtain⟨ok,hok⟩:∃x,aH n f=x:=⟨_,rfl⟩
 have HC:=aA (aY _ pa n cap f HRD.out);rw[hok]at HC;have t0:0≤to:=by omega
 have t5:to≤5:=by omega
 have a0:0≤a:=by omega
 have a5:a≤5:=by omega
 have b0:0≤b:=by omega
 have b5:b≤5:=by omega
 clear h1 h2 h3;have HOK:=aA hok
 clear hok;cases ok
 ·have HZ:Hid (R=[]):=by rw[←HR.out];exact aA (aS (aT (fun q=>by have:=q.2.2.2.2.1;rw[HOK.out]at this;cases this)))
  go_enter Tryz.func23,Tryz.ntmps23;go_wp2_with (go_at_call 54;first|(refine(aM _ _ _ _ (by omega) (by omega)).mono ?_;rintro e w' ⟨rfl,rfl⟩)|(refine(aJ _ _ _ _ (by omega)).mono ?_;rintro e w' ⟨rfl,rfl⟩));refine HC.out.mono ?_;rintro r w1 ⟨rfl,hb1⟩;have HB1:=aA (aC HB0.out hb1)
  clear hb1;go_wp2;go_ret;exact⟨by rw[HZ.out];rfl,HB1.out⟩
 ·skip
  by_cases ha:¬a=0
  ·have HZ:Hid (R=[]):=by rw[←HR.out];exact aA (aS (aT (fun q=>ha (by have:=q.2.2.2.2.2.1;revert this;simp[dR]))))
   have hab:(a !=0)=true:=by simp[ha]
   go_enter Tryz.func23,Tryz.ntmps23;go_wp2_with (go_at_call 54;first|(refine(aM _ _ _ _ (by omega) (by omega)).mono ?_;rintro e w' ⟨rfl,rfl⟩)|(refine(aJ _ _ _ _ (by omega)).mono ?_;rintro e w' ⟨rfl,rfl⟩));refine HC.out.mono ?_;rintro r w1 ⟨rfl,hb1⟩;have HB1:=aA (aC HB0.out hb1)
   have HRD1:=aA (HRD.out.below hb1);have HL1:=aA (aB HL0.out hb1 (by simp))
   have hlt1:w.heap.size<w1.heap.size:=eB (by simp) hb1.size;clear hb1 HC HL0 HB0 HRD;obtain⟨l0,l1,l2,l3,l4⟩:=HL1.out;go_wp2_with fail;refine(dX 8 (by omega) _).mono ?_;rintro r w' ⟨rfl,hw'⟩;obtain rfl:=hw'.symm;clear hw';rw[show((dR 8:Nat):Int)=1 from rfl];go_wp2;go_ret;exact⟨by rw[HZ.out];rfl,HB1.out⟩
  have ha0:Hid (a=0):=aA (by omega);clear ha;by_cases hb:¬b=0
  ·have HZ:Hid (R=[]):=by rw[←HR.out];exact aA (aS (aT (fun q=>hb (by have:=q.2.2.2.2.2.2.1;revert this;simp[dR]))))
   have hbb:(b !=0)=true:=by simp[hb]
   go_enter Tryz.func23,Tryz.ntmps23;go_wp2_with (go_at_call 54;first|(refine(aM _ _ _ _ (by omega) (by omega)).mono ?_;rintro e w' ⟨rfl,rfl⟩)|(refine(aJ _ _ _ _ (by omega)).mono ?_;rintro e w' ⟨rfl,rfl⟩));refine HC.out.mono ?_;rintro r w1 ⟨rfl,hb1⟩;have HB1:=aA (aC HB0.out hb1)
   have HRD1:=aA (HRD.out.below hb1);have HL1:=aA (aB HL0.out hb1 (by simp))
   have hlt1:w.heap.size<w1.heap.size:=eB (by simp) hb1.size;clear hb1 HC HL0 HB0 HRD;obtain⟨l0,l1,l2,l3,l4⟩:=HL1.out;go_wp2_with fail;refine(dX 8 (by omega) _).mono ?_;rintro r w' ⟨rfl,hw'⟩;obtain rfl:=hw'.symm;clear hw';rw[show((dR 8:Nat):Int)=1 from rfl];go_wp2;go_ret;exact⟨by rw[HZ.out];rfl,HB1.out⟩
  have hb0:Hid (b=0):=aA (by omega);clear hb;by_cases hn:¬n=0
  ·have HZ:Hid (R=[]):=by rw[←HR.out];exact aA (aS (aT (fun q=>hn (by have:=q.2.2.2.2.2.2.2;revert this;simp))))
   have hnp:(0:Int)<(n:Int):=by omega
   go_enter Tryz.func23,Tryz.ntmps23;go_wp2_with (go_at_call 54;first|(refine(aM _ _ _ _ (by omega) (by omega)).mono ?_;rintro e w' ⟨rfl,rfl⟩)|(refine(aJ _ _ _ _ (by omega)).mono ?_;rintro e w' ⟨rfl,rfl⟩));refine HC.out.mono ?_;rintro r w1 ⟨rfl,hb1⟩;have HB1:=aA (aC HB0.out hb1)
   have HRD1:=aA (HRD.out.below hb1);have HL1:=aA (aB HL0.out hb1 (by simp))
   have hlt1:w.heap.size<w1.heap.size:=eB (by simp) hb1.size;clear hb1 HC HL0 HB0 HRD;obtain⟨l0,l1,l2,l3,l4⟩:=HL1.out;go_wp2_with fail;refine(dX 8 (by omega) _).mono ?_;rintro r w' ⟨rfl,hw'⟩;obtain rfl:=hw'.symm;clear hw';rw[show((dR 8:Nat):Int)=1 from rfl];go_wp2;go_ret;exact⟨by rw[HZ.out];rfl,HB1.out⟩
  have hn0:Hid (n=0):=aA (by omega);clear hn;have haq:(a !=0)=false:=by simp[ha0.out]
  have hbq:(b !=0)=false:=by simp[hb0.out]
  have hnl:¬(0:Int)<(n:Int):=by have:=hn0.out;omega
  have HW:Hid (uR 8 to a b n f=true):=aA (decide_eq_true ⟨⟨by omega,by omega⟩,⟨t0,t5⟩,⟨a0,a5⟩,⟨b0,b5⟩,HOK.out,.inr ha0.out,.inr hb0.out,.inr hn0.out⟩);have HRAW:=aA (SD to a b n f)
  have hcv:=fun(u:World) (g:Nat) hc=>nC t0 t5 u g hc;have hwto:IntKind.i64.wrap (65+to)=65+to:=by rw[IntKind.wrap_i64];omega
  have hvto:IntKind.u8.wrap (65+to)=65+to:=by rw[IntKind.wrap_u8];omega
  have hwa:IntKind.i64.wrap (65+a)=65+a:=by rw[IntKind.wrap_i64];omega
  have hva:IntKind.u8.wrap (65+a)=65+a:=by rw[IntKind.wrap_u8];omega
  have hwb:IntKind.i64.wrap (65+b)=65+b:=by rw[IntKind.wrap_i64];omega
  have hvb:IntKind.u8.wrap (65+b)=65+b:=by rw[IntKind.wrap_u8];omega
  go_enter Tryz.func23,Tryz.ntmps23;go_wp2_with (go_at_call 54;first|(refine(aM _ _ _ _ (by omega) (by omega)).mono ?_;rintro e w' ⟨rfl,rfl⟩)|(refine(aJ _ _ _ _ (by omega)).mono ?_;rintro e w' ⟨rfl,rfl⟩));refine HC.out.mono ?_;rintro r w1 ⟨rfl,hb1⟩;have HB1:=aA (aC HB0.out hb1)
  have HRD1:=aA (HRD.out.below hb1);have HL1:=aA (aB HL0.out hb1 (by simp))
  have hlt1:w.heap.size<w1.heap.size:=eB (by simp) hb1.size;clear hb1 HC HL0 HB0 HRD;obtain⟨l0,l1,l2,l3,l4⟩:=HL1.out;go_wp2_with fail;refine(dX 8 (by omega) _).mono ?_;rintro r w' ⟨rfl,hw'⟩;obtain rfl:=hw'.symm;clear hw';rw[show((dR 8:Nat):Int)=1 from rfl];have HS1:=HL1
  have HNA:=aA (fun u=>kK u);go_wp2_with fail;have hl5:L5 w1 w.heap.size 8 to a b pa n cap:=⟨l0,l1,l2,l3,l4⟩
  have HL5:=aA hl5;have HLT:=aA hlt1
  clear l0 l1 l2 l3 l4 hl5;rename_i K0 hK0;refine wp_region_held_drew (S:=fun u=>L5 u w.heap.size 8 to a b pa n cap) (by kernel_rfl) (by first|with_reducible exact HL5.out|with_reducible exact aE HL5.out|with_reducible exact aB HL5.out ((aD _ _).alloc (Nat.le_refl _) _) HLT.out|with_reducible exact aB HL5.out (((aD _ _).alloc (Nat.le_refl _) _).drew) HLT.out|with_reducible exact aB HL5.out (((aD _ _).alloc (Nat.le_refl _) _).alloc (by simp) _) HLT.out|with_reducible exact aB HL5.out ((((aD _ _).alloc (Nat.le_refl _) _).alloc (by simp) _).drew) HLT.out|with_reducible exact aB HL5.out ((((aD _ _).drew).alloc (by simp) _).alloc (by simp) _) HLT.out|with_reducible exact aB HL5.out (((aD _ _).drew).alloc (by simp) _) HLT.out) (fun hHeld=>?_);refine wpAnyH_take (i:=1) (v:=?_) rfl (by kernel_rfl) (by kernel_rfl) (by kernel_rfl) (fun _ _ _ h=>h) (Or.inl ⟨by rfl,?_⟩) (by assumption) ?_;rotate_left
  ·(intro w9 hSw;(try dsimp only at hSw);go_simp)<;>with_reducible rfl
  try simp only[Act.put,aI]
  refine wpAnyH_take (i:=2) (v:=?_) rfl (by kernel_rfl) (by kernel_rfl) (by kernel_rfl) (fun _ _ _ h=>h) (Or.inl ⟨by rfl,?_⟩) (by assumption) ?_;rotate_left
  ·(intro w9 hSw;(try dsimp only at hSw);go_simp)<;>with_reducible rfl
  try simp only[Act.put,aI]
  refine wpAnyH_take (i:=6) (v:=?_) rfl (by kernel_rfl) (by kernel_rfl) (by kernel_rfl) (fun _ _ _ h=>h) (Or.inl ⟨by rfl,?_⟩) (by assumption) ?_;rotate_left
  ·(intro w9 hSw;(try dsimp only at hSw);go_simp)<;>with_reducible rfl
  try simp only[Act.put,aI]
  refine wpAnyH_take (i:=7) (v:=?_) rfl (by kernel_rfl) (by kernel_rfl) (by kernel_rfl) (fun _ _ _ h=>h) (Or.inl ⟨by rfl,?_⟩) (by assumption) ?_;rotate_left
  ·(intro w9 hSw;(try dsimp only at hSw);go_simp)<;>with_reducible rfl
  try simp only[Act.put,aI]
  refine wpAnyH_take (i:=8) (v:=?_) rfl (by kernel_rfl) (by kernel_rfl) (by kernel_rfl) (fun _ _ _ h=>h) (Or.inl ⟨by rfl,?_⟩) (by assumption) ?_;rotate_left
  ·(intro w9 hSw;(try dsimp only at hSw);go_simp)<;>with_reducible rfl
  try simp only[Act.put,aI]
  refine wpAnyH_take (i:=9) (v:=?_) rfl (by kernel_rfl) (by kernel_rfl) (by kernel_rfl) (fun _ _ _ h=>h) (Or.inl ⟨by rfl,?_⟩) (by assumption) ?_;rotate_left
  ·(intro w9 hSw;(try dsimp only at hSw);go_simp)<;>with_reducible rfl
  try simp only[Act.put,aI]
  refine wpAnyH_ready (rs:=[0,10]) (by kernel_rfl) (by simp) ?_;refine AllReadyH.cons rfl (fun K hK=>?_) ?_;rotate_left;refine AllReadyH.cons rfl (fun K hK=>?_) AllReadyH.nil;go_simp
  (repeat(rename_i hwq;clear hwq))
  refine hK.out _ _ (by first|with_reducible exact HL5.out|with_reducible exact aE HL5.out|with_reducible exact aB HL5.out ((aD _ _).alloc (Nat.le_refl _) _) HLT.out|with_reducible exact aB HL5.out (((aD _ _).alloc (Nat.le_refl _) _).drew) HLT.out|with_reducible exact aB HL5.out (((aD _ _).alloc (Nat.le_refl _) _).alloc (by simp) _) HLT.out|with_reducible exact aB HL5.out ((((aD _ _).alloc (Nat.le_refl _) _).alloc (by simp) _).drew) HLT.out|with_reducible exact aB HL5.out ((((aD _ _).drew).alloc (by simp) _).alloc (by simp) _) HLT.out|with_reducible exact aB HL5.out (((aD _ _).drew).alloc (by simp) _) HLT.out) (fun hHeld2=>?_);clear hK K hHeld;have hHeld:=hHeld2
  clear hHeld2;try simp only[Act.put,aI]
  refine wpAnyH_ready (rs:=[0,11]) (by kernel_rfl) (by simp) ?_;refine AllReadyH.cons rfl (fun K hK=>?_) ?_;rotate_left;refine AllReadyH.cons rfl (fun K hK=>?_) AllReadyH.nil;go_simp
  (repeat(rename_i hwq;clear hwq))
  refine hK.out _ _ (by first|with_reducible exact HL5.out|with_reducible exact aE HL5.out|with_reducible exact aB HL5.out ((aD _ _).alloc (Nat.le_refl _) _) HLT.out|with_reducible exact aB HL5.out (((aD _ _).alloc (Nat.le_refl _) _).drew) HLT.out|with_reducible exact aB HL5.out (((aD _ _).alloc (Nat.le_refl _) _).alloc (by simp) _) HLT.out|with_reducible exact aB HL5.out ((((aD _ _).alloc (Nat.le_refl _) _).alloc (by simp) _).drew) HLT.out|with_reducible exact aB HL5.out ((((aD _ _).drew).alloc (by simp) _).alloc (by simp) _) HLT.out|with_reducible exact aB HL5.out (((aD _ _).drew).alloc (by simp) _) HLT.out) (fun hHeld2=>?_);clear hK K hHeld;have hHeld:=hHeld2
  clear hHeld2;try simp only[Act.put,aI]
  refine wpAnyH_ready (rs:=[0]) (by kernel_rfl) (by simp) ?_;refine AllReadyH.cons rfl (fun K hK=>?_) AllReadyH.nil;go_simp
  (repeat(rename_i hwq;clear hwq))
  go_wp2_with (go_at_call 32;refine(HNA.out _).mono ?_;rintro r w' ⟨rfl,hw'⟩;rw[hw'];clear hw');refine hK.out _ _ (by first|with_reducible exact HL5.out|with_reducible exact aE HL5.out|with_reducible exact aB HL5.out ((aD _ _).alloc (Nat.le_refl _) _) HLT.out|with_reducible exact aB HL5.out (((aD _ _).alloc (Nat.le_refl _) _).drew) HLT.out|with_reducible exact aB HL5.out (((aD _ _).alloc (Nat.le_refl _) _).alloc (by simp) _) HLT.out|with_reducible exact aB HL5.out ((((aD _ _).alloc (Nat.le_refl _) _).alloc (by simp) _).drew) HLT.out|with_reducible exact aB HL5.out ((((aD _ _).drew).alloc (by simp) _).alloc (by simp) _) HLT.out|with_reducible exact aB HL5.out (((aD _ _).drew).alloc (by simp) _) HLT.out) (fun hHeld2=>?_);clear hK K hHeld;have hHeld:=hHeld2
  clear hHeld2;try simp only[Act.put,aI]
  refine wpAnyH_take (i:=3) (v:=?_) rfl (by kernel_rfl) (by kernel_rfl) (by kernel_rfl) (fun _ _ _ h=>h) (Or.inl ⟨by rfl,?_⟩) (by assumption) ?_;rotate_left
  ·(intro w9 hSw;(try dsimp only at hSw);go_simp)<;>with_reducible rfl
  try simp only[Act.put,aI]
  refine wpAnyH_ready (rs:=[4]) (by kernel_rfl) (by simp) ?_;refine AllReadyH.cons rfl (fun K hK=>?_) AllReadyH.nil;go_simp
  (repeat(rename_i hwq;clear hwq))
  refine hK.out _ _ (by first|with_reducible exact HL5.out|with_reducible exact aE HL5.out|with_reducible exact aB HL5.out ((aD _ _).alloc (Nat.le_refl _) _) HLT.out|with_reducible exact aB HL5.out (((aD _ _).alloc (Nat.le_refl _) _).drew) HLT.out|with_reducible exact aB HL5.out (((aD _ _).alloc (Nat.le_refl _) _).alloc (by simp) _) HLT.out|with_reducible exact aB HL5.out ((((aD _ _).alloc (Nat.le_refl _) _).alloc (by simp) _).drew) HLT.out|with_reducible exact aB HL5.out ((((aD _ _).drew).alloc (by simp) _).alloc (by simp) _) HLT.out|with_reducible exact aB HL5.out (((aD _ _).drew).alloc (by simp) _) HLT.out) (fun hHeld2=>?_);clear hK K hHeld;have hHeld:=hHeld2
  clear hHeld2;try simp only[Act.put,aI]
  refine wpAnyH_take (i:=5) (v:=?_) rfl (by kernel_rfl) (by kernel_rfl) (by kernel_rfl) (fun _ _ _ h=>h) (Or.inl ⟨by rfl,?_⟩) (by assumption) ?_;rotate_left
  ·(intro w9 hSw;(try dsimp only at hSw);go_simp)<;>with_reducible rfl
  try simp only[Act.put,aI]
  refine wpAnyH_take (i:=12) (v:=?_) rfl (by kernel_rfl) (by kernel_rfl) (by kernel_rfl) (fun _ _ _ h=>h) (Or.inl ⟨by rfl,?_⟩) (by assumption) ?_;rotate_left
  ·(intro w9 hSw;(try dsimp only at hSw);go_simp)<;>with_reducible rfl
  try simp only[Act.put,aI]
  refine wpAnyH_take (i:=13) (v:=?_) rfl (by kernel_rfl) (by kernel_rfl) (by kernel_rfl) (fun _ _ _ h=>h) (Or.inl ⟨by rfl,?_⟩) (by assumption) ?_;rotate_left
  ·(intro w9 hSw;(try dsimp only at hSw);go_simp)<;>with_reducible rfl
  try simp only[Act.put,aI]
  refine wpAnyH_done (by kernel_rfl) ?_ _;rotate_left;go_simp
  (repeat(rename_i hwq;clear hwq))
  go_wp2_with (go_at_call 32;refine(HNA.out _).mono ?_;rintro r w' ⟨rfl,hw'⟩;rw[hw'];clear hw');refine hK.out _ _ (by first|with_reducible exact HL5.out|with_reducible exact aE HL5.out|with_reducible exact aB HL5.out ((aD _ _).alloc (Nat.le_refl _) _) HLT.out|with_reducible exact aB HL5.out (((aD _ _).alloc (Nat.le_refl _) _).drew) HLT.out|with_reducible exact aB HL5.out (((aD _ _).alloc (Nat.le_refl _) _).alloc (by simp) _) HLT.out|with_reducible exact aB HL5.out ((((aD _ _).alloc (Nat.le_refl _) _).alloc (by simp) _).drew) HLT.out|with_reducible exact aB HL5.out ((((aD _ _).drew).alloc (by simp) _).alloc (by simp) _) HLT.out|with_reducible exact aB HL5.out (((aD _ _).drew).alloc (by simp) _) HLT.out) (fun hHeld2=>?_);clear hK K hHeld;have hHeld:=hHeld2
  clear hHeld2;try simp only[Act.put,aI]
  refine wpAnyH_take (i:=3) (v:=?_) rfl (by kernel_rfl) (by kernel_rfl) (by kernel_rfl) (fun _ _ _ h=>h) (Or.inl ⟨by rfl,?_⟩) (by assumption) ?_;rotate_left
  ·(intro w9 hSw;(try dsimp only at hSw);go_simp)<;>with_reducible rfl
  try simp only[Act.put,aI]
  refine wpAnyH_ready (rs:=[4,10]) (by kernel_rfl) (by simp) ?_;refine AllReadyH.cons rfl (fun K hK=>?_) ?_;rotate_left;refine AllReadyH.cons rfl (fun K hK=>?_) AllReadyH.nil;go_simp
  (repeat(rename_i hwq;clear hwq))
  refine hK.out _ _ (by first|with_reducible exact HL5.out|with_reducible exact aE HL5.out|with_reducible exact aB HL5.out ((aD _ _).alloc (Nat.le_refl _) _) HLT.out|with_reducible exact aB HL5.out (((aD _ _).alloc (Nat.le_refl _) _).drew) HLT.out|with_reducible exact aB HL5.out (((aD _ _).alloc (Nat.le_refl _) _).alloc (by simp) _) HLT.out|with_reducible exact aB HL5.out ((((aD _ _).alloc (Nat.le_refl _) _).alloc (by simp) _).drew) HLT.out|with_reducible exact aB HL5.out ((((aD _ _).drew).alloc (by simp) _).alloc (by simp) _) HLT.out|with_reducible exact aB HL5.out (((aD _ _).drew).alloc (by simp) _) HLT.out) (fun hHeld2=>?_);clear hK K hHeld;have hHeld:=hHeld2
  clear hHeld2;try simp only[Act.put,aI]
  refine wpAnyH_ready (rs:=[4,11]) (by kernel_rfl) (by simp) ?_;refine AllReadyH.cons rfl (fun K hK=>?_) ?_;rotate_left;refine AllReadyH.cons rfl (fun K hK=>?_) AllReadyH.nil;go_simp
  (repeat(rename_i hwq;clear hwq))
  refine hK.out _ _ (by first|with_reducible exact HL5.out|with_reducible exact aE HL5.out|with_reducible exact aB HL5.out ((aD _ _).alloc (Nat.le_refl _) _) HLT.out|with_reducible exact aB HL5.out (((aD _ _).alloc (Nat.le_refl _) _).drew) HLT.out|with_reducible exact aB HL5.out (((aD _ _).alloc (Nat.le_refl _) _).alloc (by simp) _) HLT.out|with_reducible exact aB HL5.out ((((aD _ _).alloc (Nat.le_refl _) _).alloc (by simp) _).drew) HLT.out|with_reducible exact aB HL5.out ((((aD _ _).drew).alloc (by simp) _).alloc (by simp) _) HLT.out|with_reducible exact aB HL5.out (((aD _ _).drew).alloc (by simp) _) HLT.out) (fun hHeld2=>?_);clear hK K hHeld;have hHeld:=hHeld2
  clear hHeld2;try simp only[Act.put,aI]
  refine wpAnyH_ready (rs:=[4]) (by kernel_rfl) (by simp) ?_;refine AllReadyH.cons rfl (fun K hK=>?_) AllReadyH.nil;go_simp
  (repeat(rename_i hwq;clear hwq))
  refine hK.out _ _ (by first|with_reducible exact HL5.out|with_reducible exact aE HL5.out|with_reducible exact aB HL5.out ((aD _ _).alloc (Nat.le_refl _) _) HLT.out|with_reducible exact aB HL5.out (((aD _ _).alloc (Nat.le_refl _) _).drew) HLT.out|with_reducible exact aB HL5.out (((aD _ _).alloc (Nat.le_refl _) _).alloc (by simp) _) HLT.out|with_reducible exact aB HL5.out ((((aD _ _).alloc (Nat.le_refl _) _).alloc (by simp) _).drew) HLT.out|with_reducible exact aB HL5.out ((((aD _ _).drew).alloc (by simp) _).alloc (by simp) _) HLT.out|with_reducible exact aB HL5.out (((aD _ _).drew).alloc (by simp) _) HLT.out) (fun hHeld2=>?_);clear hK K hHeld;have hHeld:=hHeld2
  clear hHeld2;try simp only[Act.put,aI]
  refine wpAnyH_take (i:=5) (v:=?_) rfl (by kernel_rfl) (by kernel_rfl) (by kernel_rfl) (fun _ _ _ h=>h) (Or.inl ⟨by rfl,?_⟩) (by assumption) ?_;rotate_left
  ·(intro w9 hSw;(try dsimp only at hSw);go_simp)<;>with_reducible rfl
  try simp only[Act.put,aI]
  refine wpAnyH_take (i:=12) (v:=?_) rfl (by kernel_rfl) (by kernel_rfl) (by kernel_rfl) (fun _ _ _ h=>h) (Or.inl ⟨by rfl,?_⟩) (by assumption) ?_;rotate_left
  ·(intro w9 hSw;(try dsimp only at hSw);go_simp)<;>with_reducible rfl
  try simp only[Act.put,aI]
  refine wpAnyH_take (i:=13) (v:=?_) rfl (by kernel_rfl) (by kernel_rfl) (by kernel_rfl) (fun _ _ _ h=>h) (Or.inl ⟨by rfl,?_⟩) (by assumption) ?_;rotate_left
  ·(intro w9 hSw;(try dsimp only at hSw);go_simp)<;>with_reducible rfl
  try simp only[Act.put,aI]
  refine wpAnyH_done (by kernel_rfl) ?_ _;rotate_left;go_simp
  (repeat(rename_i hwq;clear hwq))
  go_wp2_with (go_at_call 32;refine(HNA.out _).mono ?_;rintro r w' ⟨rfl,hw'⟩;rw[hw'];clear hw');refine hK.out _ _ (by first|with_reducible exact HL5.out|with_reducible exact aE HL5.out|with_reducible exact aB HL5.out ((aD _ _).alloc (Nat.le_refl _) _) HLT.out|with_reducible exact aB HL5.out (((aD _ _).alloc (Nat.le_refl _) _).drew) HLT.out|with_reducible exact aB HL5.out (((aD _ _).alloc (Nat.le_refl _) _).alloc (by simp) _) HLT.out|with_reducible exact aB HL5.out ((((aD _ _).alloc (Nat.le_refl _) _).alloc (by simp) _).drew) HLT.out|with_reducible exact aB HL5.out ((((aD _ _).drew).alloc (by simp) _).alloc (by simp) _) HLT.out|with_reducible exact aB HL5.out (((aD _ _).drew).alloc (by simp) _) HLT.out) (fun hHeld2=>?_);clear hK K hHeld;have hHeld:=hHeld2
  clear hHeld2;try simp only[Act.put,aI]
  refine wpAnyH_take (i:=3) (v:=?_) rfl (by kernel_rfl) (by kernel_rfl) (by kernel_rfl) (fun _ _ _ h=>h) (Or.inl ⟨by rfl,?_⟩) (by assumption) ?_;rotate_left
  ·(intro w9 hSw;(try dsimp only at hSw);go_simp)<;>with_reducible rfl
  try simp only[Act.put,aI]
  refine wpAnyH_ready (rs:=[4,11]) (by kernel_rfl) (by simp) ?_;refine AllReadyH.cons rfl (fun K hK=>?_) ?_;rotate_left;refine AllReadyH.cons rfl (fun K hK=>?_) AllReadyH.nil;go_simp
  (repeat(rename_i hwq;clear hwq))
  refine hK.out _ _ (by first|with_reducible exact HL5.out|with_reducible exact aE HL5.out|with_reducible exact aB HL5.out ((aD _ _).alloc (Nat.le_refl _) _) HLT.out|with_reducible exact aB HL5.out (((aD _ _).alloc (Nat.le_refl _) _).drew) HLT.out|with_reducible exact aB HL5.out (((aD _ _).alloc (Nat.le_refl _) _).alloc (by simp) _) HLT.out|with_reducible exact aB HL5.out ((((aD _ _).alloc (Nat.le_refl _) _).alloc (by simp) _).drew) HLT.out|with_reducible exact aB HL5.out ((((aD _ _).drew).alloc (by simp) _).alloc (by simp) _) HLT.out|with_reducible exact aB HL5.out (((aD _ _).drew).alloc (by simp) _) HLT.out) (fun hHeld2=>?_);clear hK K hHeld;have hHeld:=hHeld2
  clear hHeld2;try simp only[Act.put,aI]
  refine wpAnyH_ready (rs:=[4]) (by kernel_rfl) (by simp) ?_;refine AllReadyH.cons rfl (fun K hK=>?_) AllReadyH.nil;go_simp
  (repeat(rename_i hwq;clear hwq))
  refine hK.out _ _ (by first|with_reducible exact HL5.out|with_reducible exact aE HL5.out|with_reducible exact aB HL5.out ((aD _ _).alloc (Nat.le_refl _) _) HLT.out|with_reducible exact aB HL5.out (((aD _ _).alloc (Nat.le_refl _) _).drew) HLT.out|with_reducible exact aB HL5.out (((aD _ _).alloc (Nat.le_refl _) _).alloc (by simp) _) HLT.out|with_reducible exact aB HL5.out ((((aD _ _).alloc (Nat.le_refl _) _).alloc (by simp) _).drew) HLT.out|with_reducible exact aB HL5.out ((((aD _ _).drew).alloc (by simp) _).alloc (by simp) _) HLT.out|with_reducible exact aB HL5.out (((aD _ _).drew).alloc (by simp) _) HLT.out) (fun hHeld2=>?_);clear hK K hHeld;have hHeld:=hHeld2
  clear hHeld2;try simp only[Act.put,aI]
  refine wpAnyH_take (i:=5) (v:=?_) rfl (by kernel_rfl) (by kernel_rfl) (by kernel_rfl) (fun _ _ _ h=>h) (Or.inl ⟨by rfl,?_⟩) (by assumption) ?_;rotate_left
  ·(intro w9 hSw;(try dsimp only at hSw);go_simp)<;>with_reducible rfl
  try simp only[Act.put,aI]
  refine wpAnyH_take (i:=12) (v:=?_) rfl (by kernel_rfl) (by kernel_rfl) (by kernel_rfl) (fun _ _ _ h=>h) (Or.inl ⟨by rfl,?_⟩) (by assumption) ?_;rotate_left
  ·(intro w9 hSw;(try dsimp only at hSw);go_simp)<;>with_reducible rfl
  try simp only[Act.put,aI]
  refine wpAnyH_take (i:=13) (v:=?_) rfl (by kernel_rfl) (by kernel_rfl) (by kernel_rfl) (fun _ _ _ h=>h) (Or.inl ⟨by rfl,?_⟩) (by assumption) ?_;rotate_left
  ·(intro w9 hSw;(try dsimp only at hSw);go_simp)<;>with_reducible rfl
  try simp only[Act.put,aI]
  refine wpAnyH_done (by kernel_rfl) ?_ _;rotate_left;rotate_left;go_simp
  (repeat(rename_i hwq;clear hwq))
  refine hK.out _ _ (by first|with_reducible exact HL5.out|with_reducible exact aE HL5.out|with_reducible exact aB HL5.out ((aD _ _).alloc (Nat.le_refl _) _) HLT.out|with_reducible exact aB HL5.out (((aD _ _).alloc (Nat.le_refl _) _).drew) HLT.out|with_reducible exact aB HL5.out (((aD _ _).alloc (Nat.le_refl _) _).alloc (by simp) _) HLT.out|with_reducible exact aB HL5.out ((((aD _ _).alloc (Nat.le_refl _) _).alloc (by simp) _).drew) HLT.out|with_reducible exact aB HL5.out ((((aD _ _).drew).alloc (by simp) _).alloc (by simp) _) HLT.out|with_reducible exact aB HL5.out (((aD _ _).drew).alloc (by simp) _) HLT.out) (fun hHeld2=>?_);clear hK K hHeld;have hHeld:=hHeld2
  clear hHeld2;try simp only[Act.put,aI]
  refine wpAnyH_take (i:=5) (v:=?_) rfl (by kernel_rfl) (by kernel_rfl) (by kernel_rfl) (fun _ _ _ h=>h) (Or.inl ⟨by rfl,?_⟩) (by assumption) ?_;rotate_left
  ·(intro w9 hSw;(try dsimp only at hSw);go_simp)<;>with_reducible rfl
  try simp only[Act.put,aI]
  refine wpAnyH_ready (rs:=[10]) (by kernel_rfl) (by simp) ?_;refine AllReadyH.cons rfl (fun K hK=>?_) AllReadyH.nil;go_simp
  (repeat(rename_i hwq;clear hwq))
  refine hK.out _ _ (by first|with_reducible exact HL5.out|with_reducible exact aE HL5.out|with_reducible exact aB HL5.out ((aD _ _).alloc (Nat.le_refl _) _) HLT.out|with_reducible exact aB HL5.out (((aD _ _).alloc (Nat.le_refl _) _).drew) HLT.out|with_reducible exact aB HL5.out (((aD _ _).alloc (Nat.le_refl _) _).alloc (by simp) _) HLT.out|with_reducible exact aB HL5.out ((((aD _ _).alloc (Nat.le_refl _) _).alloc (by simp) _).drew) HLT.out|with_reducible exact aB HL5.out ((((aD _ _).drew).alloc (by simp) _).alloc (by simp) _) HLT.out|with_reducible exact aB HL5.out (((aD _ _).drew).alloc (by simp) _) HLT.out) (fun hHeld2=>?_);clear hK K hHeld;have hHeld:=hHeld2
  clear hHeld2;try simp only[Act.put,aI]
  refine wpAnyH_ready (rs:=[11]) (by kernel_rfl) (by simp) ?_;refine AllReadyH.cons rfl (fun K hK=>?_) AllReadyH.nil;go_simp
  (repeat(rename_i hwq;clear hwq))
  refine hK.out _ _ (by first|with_reducible exact HL5.out|with_reducible exact aE HL5.out|with_reducible exact aB HL5.out ((aD _ _).alloc (Nat.le_refl _) _) HLT.out|with_reducible exact aB HL5.out (((aD _ _).alloc (Nat.le_refl _) _).drew) HLT.out|with_reducible exact aB HL5.out (((aD _ _).alloc (Nat.le_refl _) _).alloc (by simp) _) HLT.out|with_reducible exact aB HL5.out ((((aD _ _).alloc (Nat.le_refl _) _).alloc (by simp) _).drew) HLT.out|with_reducible exact aB HL5.out ((((aD _ _).drew).alloc (by simp) _).alloc (by simp) _) HLT.out|with_reducible exact aB HL5.out (((aD _ _).drew).alloc (by simp) _) HLT.out) (fun hHeld2=>?_);clear hK K hHeld;have hHeld:=hHeld2
  clear hHeld2;try simp only[Act.put,aI]
  refine wpAnyH_take (i:=12) (v:=?_) rfl (by kernel_rfl) (by kernel_rfl) (by kernel_rfl) (fun _ _ _ h=>h) (Or.inl ⟨by rfl,?_⟩) (by assumption) ?_;rotate_left
  ·(intro w9 hSw;(try dsimp only at hSw);go_simp)<;>with_reducible rfl
  try simp only[Act.put,aI]
  refine wpAnyH_take (i:=13) (v:=?_) rfl (by kernel_rfl) (by kernel_rfl) (by kernel_rfl) (fun _ _ _ h=>h) (Or.inl ⟨by rfl,?_⟩) (by assumption) ?_;rotate_left
  ·(intro w9 hSw;(try dsimp only at hSw);go_simp)<;>with_reducible rfl
  try simp only[Act.put,aI]
  refine wpAnyH_done (by kernel_rfl) ?_ _;rotate_left;go_simp
  (repeat(rename_i hwq;clear hwq))
  refine hK.out _ _ (by first|with_reducible exact HL5.out|with_reducible exact aE HL5.out|with_reducible exact aB HL5.out ((aD _ _).alloc (Nat.le_refl _) _) HLT.out|with_reducible exact aB HL5.out (((aD _ _).alloc (Nat.le_refl _) _).drew) HLT.out|with_reducible exact aB HL5.out (((aD _ _).alloc (Nat.le_refl _) _).alloc (by simp) _) HLT.out|with_reducible exact aB HL5.out ((((aD _ _).alloc (Nat.le_refl _) _).alloc (by simp) _).drew) HLT.out|with_reducible exact aB HL5.out ((((aD _ _).drew).alloc (by simp) _).alloc (by simp) _) HLT.out|with_reducible exact aB HL5.out (((aD _ _).drew).alloc (by simp) _) HLT.out) (fun hHeld2=>?_);clear hK K hHeld;have hHeld:=hHeld2
  clear hHeld2;try simp only[Act.put,aI]
  refine wpAnyH_take (i:=5) (v:=?_) rfl (by kernel_rfl) (by kernel_rfl) (by kernel_rfl) (fun _ _ _ h=>h) (Or.inl ⟨by rfl,?_⟩) (by assumption) ?_;rotate_left
  ·(intro w9 hSw;(try dsimp only at hSw);go_simp)<;>with_reducible rfl
  try simp only[Act.put,aI]
  refine wpAnyH_ready (rs:=[11]) (by kernel_rfl) (by simp) ?_;refine AllReadyH.cons rfl (fun K hK=>?_) AllReadyH.nil;go_simp
  (repeat(rename_i hwq;clear hwq))
  refine hK.out _ _ (by first|with_reducible exact HL5.out|with_reducible exact aE HL5.out|with_reducible exact aB HL5.out ((aD _ _).alloc (Nat.le_refl _) _) HLT.out|with_reducible exact aB HL5.out (((aD _ _).alloc (Nat.le_refl _) _).drew) HLT.out|with_reducible exact aB HL5.out (((aD _ _).alloc (Nat.le_refl _) _).alloc (by simp) _) HLT.out|with_reducible exact aB HL5.out ((((aD _ _).alloc (Nat.le_refl _) _).alloc (by simp) _).drew) HLT.out|with_reducible exact aB HL5.out ((((aD _ _).drew).alloc (by simp) _).alloc (by simp) _) HLT.out|with_reducible exact aB HL5.out (((aD _ _).drew).alloc (by simp) _) HLT.out) (fun hHeld2=>?_);clear hK K hHeld;have hHeld:=hHeld2
  clear hHeld2;try simp only[Act.put,aI]
  refine wpAnyH_take (i:=12) (v:=?_) rfl (by kernel_rfl) (by kernel_rfl) (by kernel_rfl) (fun _ _ _ h=>h) (Or.inl ⟨by rfl,?_⟩) (by assumption) ?_;rotate_left
  ·(intro w9 hSw;(try dsimp only at hSw);go_simp)<;>with_reducible rfl
  try simp only[Act.put,aI]
  refine wpAnyH_take (i:=13) (v:=?_) rfl (by kernel_rfl) (by kernel_rfl) (by kernel_rfl) (fun _ _ _ h=>h) (Or.inl ⟨by rfl,?_⟩) (by assumption) ?_;rotate_left
  ·(intro w9 hSw;(try dsimp only at hSw);go_simp)<;>with_reducible rfl
  try simp only[Act.put,aI]
  refine wpAnyH_done (by kernel_rfl) ?_ _;rotate_left;rotate_left;go_simp
  (repeat(rename_i hwq;clear hwq))
  refine hK.out _ _ (by first|with_reducible exact HL5.out|with_reducible exact aE HL5.out|with_reducible exact aB HL5.out ((aD _ _).alloc (Nat.le_refl _) _) HLT.out|with_reducible exact aB HL5.out (((aD _ _).alloc (Nat.le_refl _) _).drew) HLT.out|with_reducible exact aB HL5.out (((aD _ _).alloc (Nat.le_refl _) _).alloc (by simp) _) HLT.out|with_reducible exact aB HL5.out ((((aD _ _).alloc (Nat.le_refl _) _).alloc (by simp) _).drew) HLT.out|with_reducible exact aB HL5.out ((((aD _ _).drew).alloc (by simp) _).alloc (by simp) _) HLT.out|with_reducible exact aB HL5.out (((aD _ _).drew).alloc (by simp) _) HLT.out) (fun hHeld2=>?_);clear hK K hHeld;have hHeld:=hHeld2
  clear hHeld2;try simp only[Act.put,aI]
  refine wpAnyH_take (i:=5) (v:=?_) rfl (by kernel_rfl) (by kernel_rfl) (by kernel_rfl) (fun _ _ _ h=>h) (Or.inl ⟨by rfl,?_⟩) (by assumption) ?_;rotate_left
  ·(intro w9 hSw;(try dsimp only at hSw);go_simp)<;>with_reducible rfl
  try simp only[Act.put,aI]
  refine wpAnyH_ready (rs:=[11]) (by kernel_rfl) (by simp) ?_;refine AllReadyH.cons rfl (fun K hK=>?_) AllReadyH.nil;go_simp
  (repeat(rename_i hwq;clear hwq))
  refine hK.out _ _ (by first|with_reducible exact HL5.out|with_reducible exact aE HL5.out|with_reducible exact aB HL5.out ((aD _ _).alloc (Nat.le_refl _) _) HLT.out|with_reducible exact aB HL5.out (((aD _ _).alloc (Nat.le_refl _) _).drew) HLT.out|with_reducible exact aB HL5.out (((aD _ _).alloc (Nat.le_refl _) _).alloc (by simp) _) HLT.out|with_reducible exact aB HL5.out ((((aD _ _).alloc (Nat.le_refl _) _).alloc (by simp) _).drew) HLT.out|with_reducible exact aB HL5.out ((((aD _ _).drew).alloc (by simp) _).alloc (by simp) _) HLT.out|with_reducible exact aB HL5.out (((aD _ _).drew).alloc (by simp) _) HLT.out) (fun hHeld2=>?_);clear hK K hHeld;have hHeld:=hHeld2
  clear hHeld2;try simp only[Act.put,aI]
  refine wpAnyH_take (i:=12) (v:=?_) rfl (by kernel_rfl) (by kernel_rfl) (by kernel_rfl) (fun _ _ _ h=>h) (Or.inl ⟨by rfl,?_⟩) (by assumption) ?_;rotate_left
  ·(intro w9 hSw;(try dsimp only at hSw);go_simp)<;>with_reducible rfl
  try simp only[Act.put,aI]
  refine wpAnyH_take (i:=13) (v:=?_) rfl (by kernel_rfl) (by kernel_rfl) (by kernel_rfl) (fun _ _ _ h=>h) (Or.inl ⟨by rfl,?_⟩) (by assumption) ?_;rotate_left
  ·(intro w9 hSw;(try dsimp only at hSw);go_simp)<;>with_reducible rfl
  try simp only[Act.put,aI]
  refine wpAnyH_done (by kernel_rfl) ?_ _;rotate_left
  all_goals(
   have HF:Hid (R=gC 8 to a b n f):=by rw[←HR.out];exact aA (jG HW.out (by rw[HRAW.out];simp))
   rw[HRAW.out]at HF;clear HR HW HRAW HNA;go_wp2;go_ret;refine⟨congrArg (fun x=>Ending.returned (Value.string x)) ?_,?_⟩
   ·rw[HF.out];apply ByteArray.ext;simp only[ByteArray.data_append,List.append_toArray,List.cons_append,List.nil_append]
   repeat(first|with_reducible exact HB1.out|with_reducible refine lE ?_|with_reducible refine aP ?_))
end Go.Proofs.YtkcmamepoplcdaaGreatDoor
