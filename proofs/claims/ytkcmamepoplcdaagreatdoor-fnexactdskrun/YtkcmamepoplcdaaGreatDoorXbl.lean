/-
  The model writes a line (DskText).
-/
import Derived.Test.YtkcmamepoplcdaaGreatDoorXah
set_option maxHeartbeats 8000000
set_option maxRecDepth 100000
namespace Go.Proofs.YtkcmamepoplcdaaGreatDoor
open Go.RowKit
set_option linter.unusedVariables false
set_option linter.unusedSimpArgs false
theorem TH (to a b:Int) (pa:Option Addr) (n cap:Nat) (f:Nat→T) (w:World) (h:Rd w pa n cap f):Calls Tryz.prog 23 #[.agg #[.int .i64 2,.int .i64 to,.int .i64 a,.int .i64 b,.slice pa n cap]] w fun r w'=>r= .returned (.string ⟨(dW 2 to a b n f).toArray⟩)∧Below w.heap.size w w':=by
 have hB0:=aF w (.cells #[.int .i64 2,.int .i64 to,.int .i64 a,.int .i64 b,.slice pa n cap] 24);have HL0:=aA (kI w 2 to a b pa n cap)
 have HRD:=aA (h.below hB0);have HB0:=aA hB0
 have hnI:(n:Int)≤9223372036854775807:=by have:=h.2.1;omega
 clear hB0 h;obtain⟨R,hR⟩:∃R,dW 2 to a b n f=R:=⟨_,rfl⟩
 rw[hR];have HR:=aA hR
 clear hR;by_cases h1:to<0∨(0≤to∧5<to)
 ·have HZ:Hid (R=[]):=by rw[←HR.out];exact aA (aS (aT (fun q=>by have:=q.2.1;omega)))
  go_enter Tryz.func23,Tryz.ntmps23;go_wp2_with (go_at_call 54;first|(refine(aM _ _ _ _ (by omega) (by omega)).mono ?_;rintro e w' ⟨rfl,rfl⟩)|(refine(aJ _ _ _ _ (by omega)).mono ?_;rintro e w' ⟨rfl,rfl⟩));go_ret;exact⟨by rw[HZ.out];rfl,HB0.out⟩
 by_cases h2:a<0∨(0≤a∧5<a)
 ·have HZ:Hid (R=[]):=by rw[←HR.out];exact aA (aS (aT (fun q=>by have:=q.2.2.1;omega)))
  go_enter Tryz.func23,Tryz.ntmps23;go_wp2_with (go_at_call 54;first|(refine(aM _ _ _ _ (by omega) (by omega)).mono ?_;rintro e w' ⟨rfl,rfl⟩)|(refine(aJ _ _ _ _ (by omega)).mono ?_;rintro e w' ⟨rfl,rfl⟩));go_ret;exact⟨by rw[HZ.out];rfl,HB0.out⟩
 by_cases h3:b<0∨(0≤b∧5<b)
 ·have HZ:Hid (R=[]):=by rw[←HR.out];exact aA (aS (aT (fun q=>by have:=q.2.2.2.1;omega)))
  go_enter Tryz.func23,Tryz.ntmps23;go_wp2_with (go_at_call 54;first|(refine(aM _ _ _ _ (by omega) (by omega)).mono ?_;rintro e w' ⟨rfl,rfl⟩)|(refine(aJ _ _ _ _ (by omega)).mono ?_;rintro e w' ⟨rfl,rfl⟩));go_ret;exact⟨by rw[HZ.out];rfl,HB0.out⟩
 obtain⟨ok,hok⟩:∃x,aH n f=x:=⟨_,rfl⟩
 have HC:=aA (aY _ pa n cap f HRD.out);rw[hok]at HC;have t0:0≤to:=by omega
 have t5:to≤5:=by omega
 have a0:0≤a:=by omega
 have a5:a≤5:=by omega
 have b0:0≤b:=by omega
 have b5:b≤5:=by omega
 clear h1 h2 h3;have HOK:=aA hok
 clear hok;cases ok
 ·have HZ:Hid (R=[]):=by rw[←HR.out];exact aA (aS (aT (fun q=>by have:=q.2.2.2.2.1;rw[HOK.out]at this;cases this)))
  go_enter Tryz.func23,Tryz.ntmps23;go_wp2_with (go_at_call 54;first|(refine(aM _ _ _ _ (by omega) (by omega)).mono ?_;rintro e w' ⟨rfl,rfl⟩)|(refine(aJ _ _ _ _ (by omega)).mono ?_;rintro e w' ⟨rfl,rfl⟩));refine HC.out.mono ?_;rintro r w1 ⟨rfl,hb1⟩;have HB1:=aA (aC HB0.out hb1)
  clear hb1;go_wp2;go_ret;exact⟨by rw[HZ.out];rfl,HB1.out⟩
 ·skip
  by_cases hn:¬n=0
  ·have HZ:Hid (R=[]):=by rw[←HR.out];exact aA (aS (aT (fun q=>hn (by have:=q.2.2.2.2.2.2.2;revert this;simp))))
   have hnp:(0:Int)<(n:Int):=by omega
   go_enter Tryz.func23,Tryz.ntmps23;go_wp2_with (go_at_call 54;first|(refine(aM _ _ _ _ (by omega) (by omega)).mono ?_;rintro e w' ⟨rfl,rfl⟩)|(refine(aJ _ _ _ _ (by omega)).mono ?_;rintro e w' ⟨rfl,rfl⟩));refine HC.out.mono ?_;rintro r w1 ⟨rfl,hb1⟩;have HB1:=aA (aC HB0.out hb1)
   have HRD1:=aA (HRD.out.below hb1);have HL1:=aA (aB HL0.out hb1 (by simp))
   have hlt1:w.heap.size<w1.heap.size:=eB (by simp) hb1.size;clear hb1 HC HL0 HB0 HRD;obtain⟨l0,l1,l2,l3,l4⟩:=HL1.out;go_wp2_with fail;refine(dX 2 (by omega) _).mono ?_;rintro r w' ⟨rfl,hw'⟩;obtain rfl:=hw'.symm;clear hw';rw[show((dR 2:Nat):Int)=3 from rfl];go_wp2;go_ret;exact⟨by rw[HZ.out];rfl,HB1.out⟩
  have hn0:Hid (n=0):=aA (by omega);clear hn;have hnl:¬(0:Int)<(n:Int):=by have:=hn0.out;omega
  have HW:Hid (uR 2 to a b n f=true):=aA (decide_eq_true ⟨⟨by omega,by omega⟩,⟨t0,t5⟩,⟨a0,a5⟩,⟨b0,b5⟩,HOK.out,.inl (by decide),.inl (by decide),.inr hn0.out⟩);have HRAW:=aA (RX to a b n f)
  have hcv:=fun(u:World) (g:Nat) hc=>nC t0 t5 u g hc;have hwto:IntKind.i64.wrap (65+to)=65+to:=by rw[IntKind.wrap_i64];omega
  have hvto:IntKind.u8.wrap (65+to)=65+to:=by rw[IntKind.wrap_u8];omega
  have hwa:IntKind.i64.wrap (65+a)=65+a:=by rw[IntKind.wrap_i64];omega
  have hva:IntKind.u8.wrap (65+a)=65+a:=by rw[IntKind.wrap_u8];omega
  have hwb:IntKind.i64.wrap (65+b)=65+b:=by rw[IntKind.wrap_i64];omega
  have hvb:IntKind.u8.wrap (65+b)=65+b:=by rw[IntKind.wrap_u8];omega
  go_enter Tryz.func23,Tryz.ntmps23;go_wp2_with (go_at_call 54;first|(refine(aM _ _ _ _ (by omega) (by omega)).mono ?_;rintro e w' ⟨rfl,rfl⟩)|(refine(aJ _ _ _ _ (by omega)).mono ?_;rintro e w' ⟨rfl,rfl⟩));refine HC.out.mono ?_;rintro r w1 ⟨rfl,hb1⟩;have HB1:=aA (aC HB0.out hb1)
  have HRD1:=aA (HRD.out.below hb1);have HL1:=aA (aB HL0.out hb1 (by simp))
  have hlt1:w.heap.size<w1.heap.size:=eB (by simp) hb1.size;clear hb1 HC HL0 HB0 HRD;obtain⟨l0,l1,l2,l3,l4⟩:=HL1.out;go_wp2_with fail;refine(dX 2 (by omega) _).mono ?_;rintro r w' ⟨rfl,hw'⟩;obtain rfl:=hw'.symm;clear hw';rw[show((dR 2:Nat):Int)=3 from rfl];have HS1:=HL1
  have HNA:=aA (fun u=>kK u);go_wp2_with fail;have hl5:L5 w1 w.heap.size 2 to a b pa n cap:=⟨l0,l1,l2,l3,l4⟩
  have HL5:=aA hl5;have HLT:=aA hlt1
  clear l0 l1 l2 l3 l4 hl5;rename_i K0 hK0;refine wp_region_held_drew (S:=fun u=>L5 u w.heap.size 2 to a b pa n cap) (by kernel_rfl) (by first|with_reducible exact HL5.out|with_reducible exact aE HL5.out|with_reducible exact aB HL5.out ((aD _ _).alloc (Nat.le_refl _) _) HLT.out|with_reducible exact aB HL5.out (((aD _ _).alloc (Nat.le_refl _) _).drew) HLT.out|with_reducible exact aB HL5.out (((aD _ _).alloc (Nat.le_refl _) _).alloc (by simp) _) HLT.out|with_reducible exact aB HL5.out ((((aD _ _).alloc (Nat.le_refl _) _).alloc (by simp) _).drew) HLT.out|with_reducible exact aB HL5.out ((((aD _ _).drew).alloc (by simp) _).alloc (by simp) _) HLT.out|with_reducible exact aB HL5.out (((aD _ _).drew).alloc (by simp) _) HLT.out) (fun hHeld=>?_);refine wpAnyH_take (i:=1) (v:=?_) rfl (by kernel_rfl) (by kernel_rfl) (by kernel_rfl) (fun _ _ _ h=>h) (Or.inl ⟨by rfl,?_⟩) (by assumption) ?_;rotate_left
  ·(intro w9 hSw;(try dsimp only at hSw);go_simp)<;>with_reducible rfl
  try simp only[Act.put,aI]
  refine wpAnyH_take (i:=2) (v:=?_) rfl (by kernel_rfl) (by kernel_rfl) (by kernel_rfl) (fun _ _ _ h=>h) (Or.inl ⟨by rfl,?_⟩) (by assumption) ?_;rotate_left
  ·(intro w9 hSw;(try dsimp only at hSw);go_simp)<;>with_reducible rfl
  try simp only[Act.put,aI]
  refine wpAnyH_take (i:=6) (v:=?_) rfl (by kernel_rfl) (by kernel_rfl) (by kernel_rfl) (fun _ _ _ h=>h) (Or.inl ⟨by rfl,?_⟩) (by assumption) ?_;rotate_left
  ·(intro w9 hSw;(try dsimp only at hSw);go_simp)<;>with_reducible rfl
  try simp only[Act.put,aI]
  refine wpAnyH_take (i:=7) (v:=?_) rfl (by kernel_rfl) (by kernel_rfl) (by kernel_rfl) (fun _ _ _ h=>h) (Or.inl ⟨by rfl,?_⟩) (by assumption) ?_;rotate_left
  ·(intro w9 hSw;(try dsimp only at hSw);go_simp)<;>with_reducible rfl
  try simp only[Act.put,aI]
  refine wpAnyH_take (i:=8) (v:=?_) rfl (by kernel_rfl) (by kernel_rfl) (by kernel_rfl) (fun _ _ _ h=>h) (Or.inl ⟨by rfl,?_⟩) (by assumption) ?_;rotate_left
  ·(intro w9 hSw;(try dsimp only at hSw);go_simp)<;>with_reducible rfl
  try simp only[Act.put,aI]
  refine wpAnyH_take (i:=9) (v:=?_) rfl (by kernel_rfl) (by kernel_rfl) (by kernel_rfl) (fun _ _ _ h=>h) (Or.inl ⟨by rfl,?_⟩) (by assumption) ?_;rotate_left
  ·(intro w9 hSw;(try dsimp only at hSw);go_simp)<;>with_reducible rfl
  try simp only[Act.put,aI]
  refine wpAnyH_ready (rs:=[0,10]) (by kernel_rfl) (by simp) ?_;refine AllReadyH.cons rfl (fun K hK=>?_) ?_;rotate_left;refine AllReadyH.cons rfl (fun K hK=>?_) AllReadyH.nil;go_simp
  (repeat(rename_i hwq;clear hwq))
  refine hK.out _ _ (by first|with_reducible exact HL5.out|with_reducible exact aE HL5.out|with_reducible exact aB HL5.out ((aD _ _).alloc (Nat.le_refl _) _) HLT.out|with_reducible exact aB HL5.out (((aD _ _).alloc (Nat.le_refl _) _).drew) HLT.out|with_reducible exact aB HL5.out (((aD _ _).alloc (Nat.le_refl _) _).alloc (by simp) _) HLT.out|with_reducible exact aB HL5.out ((((aD _ _).alloc (Nat.le_refl _) _).alloc (by simp) _).drew) HLT.out|with_reducible exact aB HL5.out ((((aD _ _).drew).alloc (by simp) _).alloc (by simp) _) HLT.out|with_reducible exact aB HL5.out (((aD _ _).drew).alloc (by simp) _) HLT.out) (fun hHeld2=>?_);clear hK K hHeld;have hHeld:=hHeld2
  clear hHeld2;try simp only[Act.put,aI]
  refine wpAnyH_ready (rs:=[0,11]) (by kernel_rfl) (by simp) ?_;refine AllReadyH.cons rfl (fun K hK=>?_) ?_;rotate_left;refine AllReadyH.cons rfl (fun K hK=>?_) AllReadyH.nil;go_simp
  (repeat(rename_i hwq;clear hwq))
  refine hK.out _ _ (by first|with_reducible exact HL5.out|with_reducible exact aE HL5.out|with_reducible exact aB HL5.out ((aD _ _).alloc (Nat.le_refl _) _) HLT.out|with_reducible exact aB HL5.out (((aD _ _).alloc (Nat.le_refl _) _).drew) HLT.out|with_reducible exact aB HL5.out (((aD _ _).alloc (Nat.le_refl _) _).alloc (by simp) _) HLT.out|with_reducible exact aB HL5.out ((((aD _ _).alloc (Nat.le_refl _) _).alloc (by simp) _).drew) HLT.out|with_reducible exact aB HL5.out ((((aD _ _).drew).alloc (by simp) _).alloc (by simp) _) HLT.out|with_reducible exact aB HL5.out (((aD _ _).drew).alloc (by simp) _) HLT.out) (fun hHeld2=>?_);clear hK K hHeld;have hHeld:=hHeld2
  clear hHeld2;try simp only[Act.put,aI]
  refine wpAnyH_ready (rs:=[0]) (by kernel_rfl) (by simp) ?_;refine AllReadyH.cons rfl (fun K hK=>?_) AllReadyH.nil;go_simp
  (repeat(rename_i hwq;clear hwq))
  go_wp2_with (go_at_call 32;refine(HNA.out _).mono ?_;rintro r w' ⟨rfl,hw'⟩;rw[hw'];clear hw');refine hK.out _ _ (by first|with_reducible exact HL5.out|with_reducible exact aE HL5.out|with_reducible exact aB HL5.out ((aD _ _).alloc (Nat.le_refl _) _) HLT.out|with_reducible exact aB HL5.out (((aD _ _).alloc (Nat.le_refl _) _).drew) HLT.out|with_reducible exact aB HL5.out (((aD _ _).alloc (Nat.le_refl _) _).alloc (by simp) _) HLT.out|with_reducible exact aB HL5.out ((((aD _ _).alloc (Nat.le_refl _) _).alloc (by simp) _).drew) HLT.out|with_reducible exact aB HL5.out ((((aD _ _).drew).alloc (by simp) _).alloc (by simp) _) HLT.out|with_reducible exact aB HL5.out (((aD _ _).drew).alloc (by simp) _) HLT.out) (fun hHeld2=>?_);clear hK K hHeld;have hHeld:=hHeld2
  clear hHeld2;try simp only[Act.put,aI]
  refine wpAnyH_take (i:=3) (v:=?_) rfl (by kernel_rfl) (by kernel_rfl) (by kernel_rfl) (fun _ _ _ h=>h) (Or.inl ⟨by rfl,?_⟩) (by assumption) ?_;rotate_left
  ·(intro w9 hSw;(try dsimp only at hSw);go_simp)<;>with_reducible rfl
  try simp only[Act.put,aI]
  refine wpAnyH_ready (rs:=[4]) (by kernel_rfl) (by simp) ?_;refine AllReadyH.cons rfl (fun K hK=>?_) AllReadyH.nil;go_simp
  (repeat(rename_i hwq;clear hwq))
  refine hK.out _ _ (by first|with_reducible exact HL5.out|with_reducible exact aE HL5.out|with_reducible exact aB HL5.out ((aD _ _).alloc (Nat.le_refl _) _) HLT.out|with_reducible exact aB HL5.out (((aD _ _).alloc (Nat.le_refl _) _).drew) HLT.out|with_reducible exact aB HL5.out (((aD _ _).alloc (Nat.le_refl _) _).alloc (by simp) _) HLT.out|with_reducible exact aB HL5.out ((((aD _ _).alloc (Nat.le_refl _) _).alloc (by simp) _).drew) HLT.out|with_reducible exact aB HL5.out ((((aD _ _).drew).alloc (by simp) _).alloc (by simp) _) HLT.out|with_reducible exact aB HL5.out (((aD _ _).drew).alloc (by simp) _) HLT.out) (fun hHeld2=>?_);clear hK K hHeld;have hHeld:=hHeld2
  clear hHeld2;try simp only[Act.put,aI]
  refine wpAnyH_take (i:=5) (v:=?_) rfl (by kernel_rfl) (by kernel_rfl) (by kernel_rfl) (fun _ _ _ h=>h) (Or.inl ⟨by rfl,?_⟩) (by assumption) ?_;rotate_left
  ·(intro w9 hSw;(try dsimp only at hSw);go_simp)<;>with_reducible rfl
  try simp only[Act.put,aI]
  refine wpAnyH_take (i:=12) (v:=?_) rfl (by kernel_rfl) (by kernel_rfl) (by kernel_rfl) (fun _ _ _ h=>h) (Or.inl ⟨by rfl,?_⟩) (by assumption) ?_;rotate_left
  ·(intro w9 hSw;(try dsimp only at hSw);go_simp)<;>with_reducible rfl
  try simp only[Act.put,aI]
  refine wpAnyH_take (i:=13) (v:=?_) rfl (by kernel_rfl) (by kernel_rfl) (by kernel_rfl) (fun _ _ _ h=>h) (Or.inl ⟨by rfl,?_⟩) (by assumption) ?_;rotate_left
  ·(intro w9 hSw;(try dsimp only at hSw);go_simp)<;>with_reducible rfl
  try simp only[Act.put,aI]
  refine wpAnyH_done (by kernel_rfl) ?_ _;rotate_left;go_simp
  (repeat(rename_i hwq;clear hwq))
  go_wp2_with (go_at_call 32;refine(HNA.out _).mono ?_;rintro r w' ⟨rfl,hw'⟩;rw[hw'];clear hw');refine hK.out _ _ (by first|with_reducible exact HL5.out|with_reducible exact aE HL5.out|with_reducible exact aB HL5.out ((aD _ _).alloc (Nat.le_refl _) _) HLT.out|with_reducible exact aB HL5.out (((aD _ _).alloc (Nat.le_refl _) _).drew) HLT.out|with_reducible exact aB HL5.out (((aD _ _).alloc (Nat.le_refl _) _).alloc (by simp) _) HLT.out|with_reducible exact aB HL5.out ((((aD _ _).alloc (Nat.le_refl _) _).alloc (by simp) _).drew) HLT.out|with_reducible exact aB HL5.out ((((aD _ _).drew).alloc (by simp) _).alloc (by simp) _) HLT.out|with_reducible exact aB HL5.out (((aD _ _).drew).alloc (by simp) _) HLT.out) (fun hHeld2=>?_);clear hK K hHeld;have hHeld:=hHeld2
  clear hHeld2;try simp only[Act.put,aI]
  refine wpAnyH_take (i:=3) (v:=?_) rfl (by kernel_rfl) (by kernel_rfl) (by kernel_rfl) (fun _ _ _ h=>h) (Or.inl ⟨by rfl,?_⟩) (by assumption) ?_;rotate_left
  ·(intro w9 hSw;(try dsimp only at hSw);go_simp)<;>with_reducible rfl
  try simp only[Act.put,aI]
  refine wpAnyH_ready (rs:=[4,10]) (by kernel_rfl) (by simp) ?_;refine AllReadyH.cons rfl (fun K hK=>?_) ?_;rotate_left;refine AllReadyH.cons rfl (fun K hK=>?_) AllReadyH.nil;go_simp
  (repeat(rename_i hwq;clear hwq))
  refine hK.out _ _ (by first|with_reducible exact HL5.out|with_reducible exact aE HL5.out|with_reducible exact aB HL5.out ((aD _ _).alloc (Nat.le_refl _) _) HLT.out|with_reducible exact aB HL5.out (((aD _ _).alloc (Nat.le_refl _) _).drew) HLT.out|with_reducible exact aB HL5.out (((aD _ _).alloc (Nat.le_refl _) _).alloc (by simp) _) HLT.out|with_reducible exact aB HL5.out ((((aD _ _).alloc (Nat.le_refl _) _).alloc (by simp) _).drew) HLT.out|with_reducible exact aB HL5.out ((((aD _ _).drew).alloc (by simp) _).alloc (by simp) _) HLT.out|with_reducible exact aB HL5.out (((aD _ _).drew).alloc (by simp) _) HLT.out) (fun hHeld2=>?_);clear hK K hHeld;have hHeld:=hHeld2
  clear hHeld2;try simp only[Act.put,aI]
  refine wpAnyH_ready (rs:=[4,11]) (by kernel_rfl) (by simp) ?_;refine AllReadyH.cons rfl (fun K hK=>?_) ?_;rotate_left;refine AllReadyH.cons rfl (fun K hK=>?_) AllReadyH.nil;go_simp
  (repeat(rename_i hwq;clear hwq))
  refine hK.out _ _ (by first|with_reducible exact HL5.out|with_reducible exact aE HL5.out|with_reducible exact aB HL5.out ((aD _ _).alloc (Nat.le_refl _) _) HLT.out|with_reducible exact aB HL5.out (((aD _ _).alloc (Nat.le_refl _) _).drew) HLT.out|with_reducible exact aB HL5.out (((aD _ _).alloc (Nat.le_refl _) _).alloc (by simp) _) HLT.out|with_reducible exact aB HL5.out ((((aD _ _).alloc (Nat.le_refl _) _).alloc (by simp) _).drew) HLT.out|with_reducible exact aB HL5.out ((((aD _ _).drew).alloc (by simp) _).alloc (by simp) _) HLT.out|with_reducible exact aB HL5.out (((aD _ _).drew).alloc (by simp) _) HLT.out) (fun hHeld2=>?_);clear hK K hHeld;have hHeld:=hHeld2
  clear hHeld2;try simp only[Act.put,aI]
  refine wpAnyH_ready (rs:=[4]) (by kernel_rfl) (by simp) ?_;refine AllReadyH.cons rfl (fun K hK=>?_) AllReadyH.nil;go_simp
  (repeat(rename_i hwq;clear hwq))
  refine hK.out _ _ (by first|with_reducible exact HL5.out|with_reducible exact aE HL5.out|with_reducible exact aB HL5.out ((aD _ _).alloc (Nat.le_refl _) _) HLT.out|with_reducible exact aB HL5.out (((aD _ _).alloc (Nat.le_refl _) _).drew) HLT.out|with_reducible exact aB HL5.out (((aD _ _).alloc (Nat.le_refl _) _).alloc (by simp) _) HLT.out|with_reducible exact aB HL5.out ((((aD _ _).alloc (Nat.le_refl _) _).alloc (by simp) _).drew) HLT.out|with_reducible exact aB HL5.out ((((aD _ _).drew).alloc (by simp) _).alloc (by simp) _) HLT.out|with_reducible exact aB HL5.out (((aD _ _).drew).alloc (by simp) _) HLT.out) (fun hHeld2=>?_);clear hK K hHeld;have hHeld:=hHeld2
  clear hHeld2;try simp only[Act.put,aI]
  refine wpAnyH_take (i:=5) (v:=?_) rfl (by kernel_rfl) (by kernel_rfl) (by kernel_rfl) (fun _ _ _ h=>h) (Or.inl ⟨by rfl,?_⟩) (by assumption) ?_;rotate_left
  ·(intro w9 hSw;(try dsimp only at hSw);go_simp)<;>with_reducible rfl
  try simp only[Act.put,aI]
  refine wpAnyH_take (i:=12) (v:=?_) rfl (by kernel_rfl) (by kernel_rfl) (by kernel_rfl) (fun _ _ _ h=>h) (Or.inl ⟨by rfl,?_⟩) (by assumption) ?_;rotate_left
  ·(intro w9 hSw;(try dsimp only at hSw);go_simp)<;>with_reducible rfl
  try simp only[Act.put,aI]
  refine wpAnyH_take (i:=13) (v:=?_) rfl (by kernel_rfl) (by kernel_rfl) (by kernel_rfl) (fun _ _ _ h=>h) (Or.inl ⟨by rfl,?_⟩) (by assumption) ?_;rotate_left
  ·(intro w9 hSw;(try dsimp only at hSw);go_simp)<;>with_reducible rfl
  try simp only[Act.put,aI]
  refine wpAnyH_done (by kernel_rfl) ?_ _;rotate_left;go_simp
  (repeat(rename_i hwq;clear hwq))
  go_wp2_with (go_at_call 32;refine(HNA.out _).mono ?_;rintro r w' ⟨rfl,hw'⟩;rw[hw'];clear hw');refine hK.out _ _ (by first|with_reducible exact HL5.out|with_reducible exact aE HL5.out|with_reducible exact aB HL5.out ((aD _ _).alloc (Nat.le_refl _) _) HLT.out|with_reducible exact aB HL5.out (((aD _ _).alloc (Nat.le_refl _) _).drew) HLT.out|with_reducible exact aB HL5.out (((aD _ _).alloc (Nat.le_refl _) _).alloc (by simp) _) HLT.out|with_reducible exact aB HL5.out ((((aD _ _).alloc (Nat.le_refl _) _).alloc (by simp) _).drew) HLT.out|with_reducible exact aB HL5.out ((((aD _ _).drew).alloc (by simp) _).alloc (by simp) _) HLT.out|with_reducible exact aB HL5.out (((aD _ _).drew).alloc (by simp) _) HLT.out) (fun hHeld2=>?_);clear hK K hHeld;have hHeld:=hHeld2
  clear hHeld2;try simp only[Act.put,aI]
  refine wpAnyH_take (i:=3) (v:=?_) rfl (by kernel_rfl) (by kernel_rfl) (by kernel_rfl) (fun _ _ _ h=>h) (Or.inl ⟨by rfl,?_⟩) (by assumption) ?_;rotate_left
  ·(intro w9 hSw;(try dsimp only at hSw);go_simp)<;>with_reducible rfl
  try simp only[Act.put,aI]
  refine wpAnyH_ready (rs:=[4,11]) (by kernel_rfl) (by simp) ?_;refine AllReadyH.cons rfl (fun K hK=>?_) ?_;rotate_left;refine AllReadyH.cons rfl (fun K hK=>?_) AllReadyH.nil;go_simp
  (repeat(rename_i hwq;clear hwq))
  refine hK.out _ _ (by first|with_reducible exact HL5.out|with_reducible exact aE HL5.out|with_reducible exact aB HL5.out ((aD _ _).alloc (Nat.le_refl _) _) HLT.out|with_reducible exact aB HL5.out (((aD _ _).alloc (Nat.le_refl _) _).drew) HLT.out|with_reducible exact aB HL5.out (((aD _ _).alloc (Nat.le_refl _) _).alloc (by simp) _) HLT.out|with_reducible exact aB HL5.out ((((aD _ _).alloc (Nat.le_refl _) _).alloc (by simp) _).drew) HLT.out|with_reducible exact aB HL5.out ((((aD _ _).drew).alloc (by simp) _).alloc (by simp) _) HLT.out|with_reducible exact aB HL5.out (((aD _ _).drew).alloc (by simp) _) HLT.out) (fun hHeld2=>?_);clear hK K hHeld;have hHeld:=hHeld2
  clear hHeld2;try simp only[Act.put,aI]
  refine wpAnyH_ready (rs:=[4]) (by kernel_rfl) (by simp) ?_;refine AllReadyH.cons rfl (fun K hK=>?_) AllReadyH.nil;go_simp
  (repeat(rename_i hwq;clear hwq))
  refine hK.out _ _ (by first|with_reducible exact HL5.out|with_reducible exact aE HL5.out|with_reducible exact aB HL5.out ((aD _ _).alloc (Nat.le_refl _) _) HLT.out|with_reducible exact aB HL5.out (((aD _ _).alloc (Nat.le_refl _) _).drew) HLT.out|with_reducible exact aB HL5.out (((aD _ _).alloc (Nat.le_refl _) _).alloc (by simp) _) HLT.out|with_reducible exact aB HL5.out ((((aD _ _).alloc (Nat.le_refl _) _).alloc (by simp) _).drew) HLT.out|with_reducible exact aB HL5.out ((((aD _ _).drew).alloc (by simp) _).alloc (by simp) _) HLT.out|with_reducible exact aB HL5.out (((aD _ _).drew).alloc (by simp) _) HLT.out) (fun hHeld2=>?_);clear hK K hHeld;have hHeld:=hHeld2
  clear hHeld2;try simp only[Act.put,aI]
  refine wpAnyH_take (i:=5) (v:=?_) rfl (by kernel_rfl) (by kernel_rfl) (by kernel_rfl) (fun _ _ _ h=>h) (Or.inl ⟨by rfl,?_⟩) (by assumption) ?_;rotate_left
  ·(intro w9 hSw;(try dsimp only at hSw);go_simp)<;>with_reducible rfl
  try simp only[Act.put,aI]
  refine wpAnyH_take (i:=12) (v:=?_) rfl (by kernel_rfl) (by kernel_rfl) (by kernel_rfl) (fun _ _ _ h=>h) (Or.inl ⟨by rfl,?_⟩) (by assumption) ?_;rotate_left
  ·(intro w9 hSw;(try dsimp only at hSw);go_simp)<;>with_reducible rfl
  try simp only[Act.put,aI]
  refine wpAnyH_take (i:=13) (v:=?_) rfl (by kernel_rfl) (by kernel_rfl) (by kernel_rfl) (fun _ _ _ h=>h) (Or.inl ⟨by rfl,?_⟩) (by assumption) ?_;rotate_left
  ·(intro w9 hSw;(try dsimp only at hSw);go_simp)<;>with_reducible rfl
  try simp only[Act.put,aI]
  refine wpAnyH_done (by kernel_rfl) ?_ _;rotate_left;rotate_left;go_simp
  (repeat(rename_i hwq;clear hwq))
  refine hK.out _ _ (by first|with_reducible exact HL5.out|with_reducible exact aE HL5.out|with_reducible exact aB HL5.out ((aD _ _).alloc (Nat.le_refl _) _) HLT.out|with_reducible exact aB HL5.out (((aD _ _).alloc (Nat.le_refl _) _).drew) HLT.out|with_reducible exact aB HL5.out (((aD _ _).alloc (Nat.le_refl _) _).alloc (by simp) _) HLT.out|with_reducible exact aB HL5.out ((((aD _ _).alloc (Nat.le_refl _) _).alloc (by simp) _).drew) HLT.out|with_reducible exact aB HL5.out ((((aD _ _).drew).alloc (by simp) _).alloc (by simp) _) HLT.out|with_reducible exact aB HL5.out (((aD _ _).drew).alloc (by simp) _) HLT.out) (fun hHeld2=>?_);clear hK K hHeld;have hHeld:=hHeld2
  clear hHeld2;try simp only[Act.put,aI]
  refine wpAnyH_take (i:=5) (v:=?_) rfl (by kernel_rfl) (by kernel_rfl) (by kernel_rfl) (fun _ _ _ h=>h) (Or.inl ⟨by rfl,?_⟩) (by assumption) ?_;rotate_left
  ·(intro w9 hSw;(try dsimp only at hSw);go_simp)<;>with_reducible rfl
  try simp only[Act.put,aI]
  refine wpAnyH_ready (rs:=[10]) (by kernel_rfl) (by simp) ?_;refine AllReadyH.cons rfl (fun K hK=>?_) AllReadyH.nil;go_simp
  (repeat(rename_i hwq;clear hwq))
  refine hK.out _ _ (by first|with_reducible exact HL5.out|with_reducible exact aE HL5.out|with_reducible exact aB HL5.out ((aD _ _).alloc (Nat.le_refl _) _) HLT.out|with_reducible exact aB HL5.out (((aD _ _).alloc (Nat.le_refl _) _).drew) HLT.out|with_reducible exact aB HL5.out (((aD _ _).alloc (Nat.le_refl _) _).alloc (by simp) _) HLT.out|with_reducible exact aB HL5.out ((((aD _ _).alloc (Nat.le_refl _) _).alloc (by simp) _).drew) HLT.out|with_reducible exact aB HL5.out ((((aD _ _).drew).alloc (by simp) _).alloc (by simp) _) HLT.out|with_reducible exact aB HL5.out (((aD _ _).drew).alloc (by simp) _) HLT.out) (fun hHeld2=>?_);clear hK K hHeld;have hHeld:=hHeld2
  clear hHeld2;try simp only[Act.put,aI]
  refine wpAnyH_ready (rs:=[11]) (by kernel_rfl) (by simp) ?_;refine AllReadyH.cons rfl (fun K hK=>?_) AllReadyH.nil;go_simp
  (repeat(rename_i hwq;clear hwq))
  refine hK.out _ _ (by first|with_reducible exact HL5.out|with_reducible exact aE HL5.out|with_reducible exact aB HL5.out ((aD _ _).alloc (Nat.le_refl _) _) HLT.out|with_reducible exact aB HL5.out (((aD _ _).alloc (Nat.le_refl _) _).drew) HLT.out|with_reducible exact aB HL5.out (((aD _ _).alloc (Nat.le_refl _) _).alloc (by simp) _) HLT.out|with_reducible exact aB HL5.out ((((aD _ _).alloc (Nat.le_refl _) _).alloc (by simp) _).drew) HLT.out|with_reducible exact aB HL5.out ((((aD _ _).drew).alloc (by simp) _).alloc (by simp) _) HLT.out|with_reducible exact aB HL5.out (((aD _ _).drew).alloc (by simp) _) HLT.out) (fun hHeld2=>?_);clear hK K hHeld;have hHeld:=hHeld2
  clear hHeld2;try simp only[Act.put,aI]
  refine wpAnyH_take (i:=12) (v:=?_) rfl (by kernel_rfl) (by kernel_rfl) (by kernel_rfl) (fun _ _ _ h=>h) (Or.inl ⟨by rfl,?_⟩) (by assumption) ?_;rotate_left
  ·(intro w9 hSw;(try dsimp only at hSw);go_simp)<;>with_reducible rfl
  try simp only[Act.put,aI]
  refine wpAnyH_take (i:=13) (v:=?_) rfl (by kernel_rfl) (by kernel_rfl) (by kernel_rfl) (fun _ _ _ h=>h) (Or.inl ⟨by rfl,?_⟩) (by assumption) ?_;rotate_left
  ·(intro w9 hSw;(try dsimp only at hSw);go_simp)<;>with_reducible rfl
  try simp only[Act.put,aI]
  refine wpAnyH_done (by kernel_rfl) ?_ _;rotate_left;go_simp
  (repeat(rename_i hwq;clear hwq))
  refine hK.out _ _ (by first|with_reducible exact HL5.out|with_reducible exact aE HL5.out|with_reducible exact aB HL5.out ((aD _ _).alloc (Nat.le_refl _) _) HLT.out|with_reducible exact aB HL5.out (((aD _ _).alloc (Nat.le_refl _) _).drew) HLT.out|with_reducible exact aB HL5.out (((aD _ _).alloc (Nat.le_refl _) _).alloc (by simp) _) HLT.out|with_reducible exact aB HL5.out ((((aD _ _).alloc (Nat.le_refl _) _).alloc (by simp) _).drew) HLT.out|with_reducible exact aB HL5.out ((((aD _ _).drew).alloc (by simp) _).alloc (by simp) _) HLT.out|with_reducible exact aB HL5.out (((aD _ _).drew).alloc (by simp) _) HLT.out) (fun hHeld2=>?_);clear hK K hHeld;have hHeld:=hHeld2
  clear hHeld2;try simp only[Act.put,aI]
  refine wpAnyH_take (i:=5) (v:=?_) rfl (by kernel_rfl) (by kernel_rfl) (by kernel_rfl) (fun _ _ _ h=>h) (Or.inl ⟨by rfl,?_⟩) (by assumption) ?_;rotate_left
  ·(intro w9 hSw;(try dsimp only at hSw);go_simp)<;>with_reducible rfl
  try simp only[Act.put,aI]
  refine wpAnyH_ready (rs:=[11]) (by kernel_rfl) (by simp) ?_;refine AllReadyH.cons rfl (fun K hK=>?_) AllReadyH.nil;go_simp
  (repeat(rename_i hwq;clear hwq))
  refine hK.out _ _ (by first|with_reducible exact HL5.out|with_reducible exact aE HL5.out|with_reducible exact aB HL5.out ((aD _ _).alloc (Nat.le_refl _) _) HLT.out|with_reducible exact aB HL5.out (((aD _ _).alloc (Nat.le_refl _) _).drew) HLT.out|with_reducible exact aB HL5.out (((aD _ _).alloc (Nat.le_refl _) _).alloc (by simp) _) HLT.out|with_reducible exact aB HL5.out ((((aD _ _).alloc (Nat.le_refl _) _).alloc (by simp) _).drew) HLT.out|with_reducible exact aB HL5.out ((((aD _ _).drew).alloc (by simp) _).alloc (by simp) _) HLT.out|with_reducible exact aB HL5.out (((aD _ _).drew).alloc (by simp) _) HLT.out) (fun hHeld2=>?_);clear hK K hHeld;have hHeld:=hHeld2
  clear hHeld2;try simp only[Act.put,aI]
  refine wpAnyH_take (i:=12) (v:=?_) rfl (by kernel_rfl) (by kernel_rfl) (by kernel_rfl) (fun _ _ _ h=>h) (Or.inl ⟨by rfl,?_⟩) (by assumption) ?_;rotate_left
  ·(intro w9 hSw;(try dsimp only at hSw);go_simp)<;>with_reducible rfl
  try simp only[Act.put,aI]
  refine wpAnyH_take (i:=13) (v:=?_) rfl (by kernel_rfl) (by kernel_rfl) (by kernel_rfl) (fun _ _ _ h=>h) (Or.inl ⟨by rfl,?_⟩) (by assumption) ?_;rotate_left
  ·(intro w9 hSw;(try dsimp only at hSw);go_simp)<;>with_reducible rfl
  try simp only[Act.put,aI]
  refine wpAnyH_done (by kernel_rfl) ?_ _;rotate_left;rotate_left;go_simp
  (repeat(rename_i hwq;clear hwq))
  refine hK.out _ _ (by first|with_reducible exact HL5.out|with_reducible exact aE HL5.out|with_reducible exact aB HL5.out ((aD _ _).alloc (Nat.le_refl _) _) HLT.out|with_reducible exact aB HL5.out (((aD _ _).alloc (Nat.le_refl _) _).drew) HLT.out|with_reducible exact aB HL5.out (((aD _ _).alloc (Nat.le_refl _) _).alloc (by simp) _) HLT.out|with_reducible exact aB HL5.out ((((aD _ _).alloc (Nat.le_refl _) _).alloc (by simp) _).drew) HLT.out|with_reducible exact aB HL5.out ((((aD _ _).drew).alloc (by simp) _).alloc (by simp) _) HLT.out|with_reducible exact aB HL5.out (((aD _ _).drew).alloc (by simp) _) HLT.out) (fun hHeld2=>?_);clear hK K hHeld;have hHeld:=hHeld2
  clear hHeld2;try simp only[Act.put,aI]
  refine wpAnyH_take (i:=5) (v:=?_) rfl (by kernel_rfl) (by kernel_rfl) (by kernel_rfl) (fun _ _ _ h=>h) (Or.inl ⟨by rfl,?_⟩) (by assumption) ?_;rotate_left
  ·(intro w9 hSw;(try dsimp only at hSw);go_simp)<;>with_reducible rfl
  try simp only[Act.put,aI]
  refine wpAnyH_ready (rs:=[11]) (by kernel_rfl) (by simp) ?_;refine AllReadyH.cons rfl (fun K hK=>?_) AllReadyH.nil;go_simp
  (repeat(rename_i hwq;clear hwq))
  refine hK.out _ _ (by first|with_reducible exact HL5.out|with_reducible exact aE HL5.out|with_reducible exact aB HL5.out ((aD _ _).alloc (Nat.le_refl _) _) HLT.out|with_reducible exact aB HL5.out (((aD _ _).alloc (Nat.le_refl _) _).drew) HLT.out|with_reducible exact aB HL5.out (((aD _ _).alloc (Nat.le_refl _) _).alloc (by simp) _) HLT.out|with_reducible exact aB HL5.out ((((aD _ _).alloc (Nat.le_refl _) _).alloc (by simp) _).drew) HLT.out|with_reducible exact aB HL5.out ((((aD _ _).drew).alloc (by simp) _).alloc (by simp) _) HLT.out|with_reducible exact aB HL5.out (((aD _ _).drew).alloc (by simp) _) HLT.out) (fun hHeld2=>?_);clear hK K hHeld;have hHeld:=hHeld2
  clear hHeld2;try simp only[Act.put,aI]
  refine wpAnyH_take (i:=12) (v:=?_) rfl (by kernel_rfl) (by kernel_rfl) (by kernel_rfl) (fun _ _ _ h=>h) (Or.inl ⟨by rfl,?_⟩) (by assumption) ?_;rotate_left
  ·(intro w9 hSw;(try dsimp only at hSw);go_simp)<;>with_reducible rfl
  try simp only[Act.put,aI]
  refine wpAnyH_take (i:=13) (v:=?_) rfl (by kernel_rfl) (by kernel_rfl) (by kernel_rfl) (fun _ _ _ h=>h) (Or.inl ⟨by rfl,?_⟩) (by assumption) ?_;rotate_left
  ·(intro w9 hSw;(try dsimp only at hSw);go_simp)<;>with_reducible rfl
  try simp only[Act.put,aI]
  refine wpAnyH_done (by kernel_rfl) ?_ _;rotate_left
  all_goals(
   have HF:Hid (R=gC 2 to a b n f):=by rw[←HR.out];exact aA (jG HW.out (by rw[HRAW.out];simp))
   rw[HRAW.out]at HF;clear HR HW HRAW HNA;obtain⟨l0,l1,l2,l3,l4⟩:=HL5.out;clear hcv;obtain⟨x00,x01,x02,x03,x04⟩:L5 (((w1.alloc (.cells #[.int .u8 (65+to)] 5)).alloc (.cells #[.string ⟨#[]⟩,.string ⟨#[115,101,116]⟩,.string ⟨#[97,100,100]⟩,.string ⟨#[109,117,108]⟩,.string ⟨#[97,112,97,114,116]⟩,.string ⟨#[100,111]⟩,.string ⟨#[114,111,117,110,100]⟩,.string ⟨#[98,97,99,107]⟩,.string ⟨#[115,104,111,119]⟩] 9)).alloc (.cells #[.int .u8 (65+a)] 5)) w.heap.size 2 to a b pa n cap:=aB HL5.out (aP (aP (aP (aD _ _)))) HLT.out;have hca0:=cM a0 a5 ((w1.alloc (.cells #[.int .u8 (65+to)] 5)).alloc (.cells #[.string ⟨#[]⟩,.string ⟨#[115,101,116]⟩,.string ⟨#[97,100,100]⟩,.string ⟨#[109,117,108]⟩,.string ⟨#[97,112,97,114,116]⟩,.string ⟨#[100,111]⟩,.string ⟨#[114,111,117,110,100]⟩,.string ⟨#[98,97,99,107]⟩,.string ⟨#[115,104,111,119]⟩] 9)) (w1.heap.size+1+1) (by simp) 5
   have hcb0:=cM b0 b5 (((w1.alloc (.cells #[.int .u8 (65+to)] 5)).alloc (.cells #[.string ⟨#[]⟩,.string ⟨#[115,101,116]⟩,.string ⟨#[97,100,100]⟩,.string ⟨#[109,117,108]⟩,.string ⟨#[97,112,97,114,116]⟩,.string ⟨#[100,111]⟩,.string ⟨#[114,111,117,110,100]⟩,.string ⟨#[98,97,99,107]⟩,.string ⟨#[115,104,111,119]⟩] 9)).alloc (.cells #[.int .u8 (65+a)] 5)) (w1.heap.size+1+1+1) (by simp) 5;obtain⟨y00,y01,y02,y03,y04⟩:L5 ((((w1.alloc (.cells #[.int .u8 (65+to)] 5)).alloc (.cells #[.string ⟨#[]⟩,.string ⟨#[115,101,116]⟩,.string ⟨#[97,100,100]⟩,.string ⟨#[109,117,108]⟩,.string ⟨#[97,112,97,114,116]⟩,.string ⟨#[100,111]⟩,.string ⟨#[114,111,117,110,100]⟩,.string ⟨#[98,97,99,107]⟩,.string ⟨#[115,104,111,119]⟩] 9)).alloc (.cells #[.int .u8 (65+a)] 5)).alloc (.cells #[.int .u8 (65+b)] 5)) w.heap.size 2 to a b pa n cap:=aB HL5.out (aP (aP (aP (aP (aD _ _))))) HLT.out;obtain⟨x10,x11,x12,x13,x14⟩:L5 (((w1.alloc (.cells #[.string ⟨#[]⟩,.string ⟨#[115,101,116]⟩,.string ⟨#[97,100,100]⟩,.string ⟨#[109,117,108]⟩,.string ⟨#[97,112,97,114,116]⟩,.string ⟨#[100,111]⟩,.string ⟨#[114,111,117,110,100]⟩,.string ⟨#[98,97,99,107]⟩,.string ⟨#[115,104,111,119]⟩] 9)).alloc (.cells #[.int .u8 (65+to)] 5)).alloc (.cells #[.int .u8 (65+a)] 5)) w.heap.size 2 to a b pa n cap:=aB HL5.out (aP (aP (aP (aD _ _)))) HLT.out;have hca1:=cM a0 a5 ((w1.alloc (.cells #[.string ⟨#[]⟩,.string ⟨#[115,101,116]⟩,.string ⟨#[97,100,100]⟩,.string ⟨#[109,117,108]⟩,.string ⟨#[97,112,97,114,116]⟩,.string ⟨#[100,111]⟩,.string ⟨#[114,111,117,110,100]⟩,.string ⟨#[98,97,99,107]⟩,.string ⟨#[115,104,111,119]⟩] 9)).alloc (.cells #[.int .u8 (65+to)] 5)) (w1.heap.size+1+1) (by simp) 5
   have hcb1:=cM b0 b5 (((w1.alloc (.cells #[.string ⟨#[]⟩,.string ⟨#[115,101,116]⟩,.string ⟨#[97,100,100]⟩,.string ⟨#[109,117,108]⟩,.string ⟨#[97,112,97,114,116]⟩,.string ⟨#[100,111]⟩,.string ⟨#[114,111,117,110,100]⟩,.string ⟨#[98,97,99,107]⟩,.string ⟨#[115,104,111,119]⟩] 9)).alloc (.cells #[.int .u8 (65+to)] 5)).alloc (.cells #[.int .u8 (65+a)] 5)) (w1.heap.size+1+1+1) (by simp) 5;obtain⟨y10,y11,y12,y13,y14⟩:L5 ((((w1.alloc (.cells #[.string ⟨#[]⟩,.string ⟨#[115,101,116]⟩,.string ⟨#[97,100,100]⟩,.string ⟨#[109,117,108]⟩,.string ⟨#[97,112,97,114,116]⟩,.string ⟨#[100,111]⟩,.string ⟨#[114,111,117,110,100]⟩,.string ⟨#[98,97,99,107]⟩,.string ⟨#[115,104,111,119]⟩] 9)).alloc (.cells #[.int .u8 (65+to)] 5)).alloc (.cells #[.int .u8 (65+a)] 5)).alloc (.cells #[.int .u8 (65+b)] 5)) w.heap.size 2 to a b pa n cap:=aB HL5.out (aP (aP (aP (aP (aD _ _))))) HLT.out;go_wp2
   (try((first|erw[hca0]|erw[hca1]);go_wp2))
   (try((first|erw[hcb0]|erw[hcb1]);go_wp2))
   go_ret;refine⟨congrArg (fun x=>Ending.returned (Value.string x)) ?_,?_⟩
   ·rw[HF.out];apply ByteArray.ext;simp only[ByteArray.data_append,List.append_toArray,List.cons_append,List.nil_append]
   repeat(first|with_reducible exact HB1.out|with_reducible refine lE ?_|with_reducible refine aP ?_))
theorem TI (to a b:Int) (pa:Option Addr) (n cap:Nat) (f:Nat→T) (w:World) (h:Rd w pa n cap f):Calls Tryz.prog 23 #[.agg #[.int .i64 3,.int .i64 to,.int .i64 a,.int .i64 b,.slice pa n cap]] w fun r w'=>r= .returned (.string ⟨(dW 3 to a b n f).toArray⟩)∧Below w.heap.size w w':=by
 have hB0:=aF w (.cells #[.int .i64 3,.int .i64 to,.int .i64 a,.int .i64 b,.slice pa n cap] 24);have HL0:=aA (kI w 3 to a b pa n cap)
 have HRD:=aA (h.below hB0);have HB0:=aA hB0
 have hnI:(n:Int)≤9223372036854775807:=by have:=h.2.1;omega
 clear hB0 h;obtain⟨R,hR⟩:∃R,dW 3 to a b n f=R:=⟨_,rfl⟩
 rw[hR];have HR:=aA hR
 clear hR;by_cases h1:to<0∨(0≤to∧5<to)
 ·have HZ:Hid (R=[]):=by rw[←HR.out];exact aA (aS (aT (fun q=>by have:=q.2.1;omega)))
  go_enter Tryz.func23,Tryz.ntmps23;go_wp2_with (go_at_call 54;first|(refine(aM _ _ _ _ (by omega) (by omega)).mono ?_;rintro e w' ⟨rfl,rfl⟩)|(refine(aJ _ _ _ _ (by omega)).mono ?_;rintro e w' ⟨rfl,rfl⟩));go_ret;exact⟨by rw[HZ.out];rfl,HB0.out⟩
 by_cases h2:a<0∨(0≤a∧5<a)
 ·have HZ:Hid (R=[]):=by rw[←HR.out];exact aA (aS (aT (fun q=>by have:=q.2.2.1;omega)))
  go_enter Tryz.func23,Tryz.ntmps23;go_wp2_with (go_at_call 54;first|(refine(aM _ _ _ _ (by omega) (by omega)).mono ?_;rintro e w' ⟨rfl,rfl⟩)|(refine(aJ _ _ _ _ (by omega)).mono ?_;rintro e w' ⟨rfl,rfl⟩));go_ret;exact⟨by rw[HZ.out];rfl,HB0.out⟩
 by_cases h3:b<0∨(0≤b∧5<b)
 ·have HZ:Hid (R=[]):=by rw[←HR.out];exact aA (aS (aT (fun q=>by have:=q.2.2.2.1;omega)))
  go_enter Tryz.func23,Tryz.ntmps23;go_wp2_with (go_at_call 54;first|(refine(aM _ _ _ _ (by omega) (by omega)).mono ?_;rintro e w' ⟨rfl,rfl⟩)|(refine(aJ _ _ _ _ (by omega)).mono ?_;rintro e w' ⟨rfl,rfl⟩));go_ret;exact⟨by rw[HZ.out];rfl,HB0.out⟩
 obtain⟨ok,hok⟩:∃x,aH n f=x:=⟨_,rfl⟩
 have HC:=aA (aY _ pa n cap f HRD.out);rw[hok]at HC;have t0:0≤to:=by omega
 have t5:to≤5:=by omega
 have a0:0≤a:=by omega
 have a5:a≤5:=by omega
 have b0:0≤b:=by omega
 have b5:b≤5:=by omega
 clear h1 h2 h3;have HOK:=aA hok
 clear hok;cases ok
 ·have HZ:Hid (R=[]):=by rw[←HR.out];exact aA (aS (aT (fun q=>by have:=q.2.2.2.2.1;rw[HOK.out]at this;cases this)))
  go_enter Tryz.func23,Tryz.ntmps23;go_wp2_with (go_at_call 54;first|(refine(aM _ _ _ _ (by omega) (by omega)).mono ?_;rintro e w' ⟨rfl,rfl⟩)|(refine(aJ _ _ _ _ (by omega)).mono ?_;rintro e w' ⟨rfl,rfl⟩));refine HC.out.mono ?_;rintro r w1 ⟨rfl,hb1⟩;have HB1:=aA (aC HB0.out hb1)
  clear hb1;go_wp2;go_ret;exact⟨by rw[HZ.out];rfl,HB1.out⟩
 ·skip
  by_cases hn:¬n=0
  ·have HZ:Hid (R=[]):=by rw[←HR.out];exact aA (aS (aT (fun q=>hn (by have:=q.2.2.2.2.2.2.2;revert this;simp))))
   have hnp:(0:Int)<(n:Int):=by omega
   go_enter Tryz.func23,Tryz.ntmps23;go_wp2_with (go_at_call 54;first|(refine(aM _ _ _ _ (by omega) (by omega)).mono ?_;rintro e w' ⟨rfl,rfl⟩)|(refine(aJ _ _ _ _ (by omega)).mono ?_;rintro e w' ⟨rfl,rfl⟩));refine HC.out.mono ?_;rintro r w1 ⟨rfl,hb1⟩;have HB1:=aA (aC HB0.out hb1)
   have HRD1:=aA (HRD.out.below hb1);have HL1:=aA (aB HL0.out hb1 (by simp))
   have hlt1:w.heap.size<w1.heap.size:=eB (by simp) hb1.size;clear hb1 HC HL0 HB0 HRD;obtain⟨l0,l1,l2,l3,l4⟩:=HL1.out;go_wp2_with fail;refine(dX 3 (by omega) _).mono ?_;rintro r w' ⟨rfl,hw'⟩;obtain rfl:=hw'.symm;clear hw';rw[show((dR 3:Nat):Int)=3 from rfl];go_wp2;go_ret;exact⟨by rw[HZ.out];rfl,HB1.out⟩
  have hn0:Hid (n=0):=aA (by omega);clear hn;have hnl:¬(0:Int)<(n:Int):=by have:=hn0.out;omega
  have HW:Hid (uR 3 to a b n f=true):=aA (decide_eq_true ⟨⟨by omega,by omega⟩,⟨t0,t5⟩,⟨a0,a5⟩,⟨b0,b5⟩,HOK.out,.inl (by decide),.inl (by decide),.inr hn0.out⟩);have HRAW:=aA (RY to a b n f)
  have hcv:=fun(u:World) (g:Nat) hc=>nC t0 t5 u g hc;have hwto:IntKind.i64.wrap (65+to)=65+to:=by rw[IntKind.wrap_i64];omega
  have hvto:IntKind.u8.wrap (65+to)=65+to:=by rw[IntKind.wrap_u8];omega
  have hwa:IntKind.i64.wrap (65+a)=65+a:=by rw[IntKind.wrap_i64];omega
  have hva:IntKind.u8.wrap (65+a)=65+a:=by rw[IntKind.wrap_u8];omega
  have hwb:IntKind.i64.wrap (65+b)=65+b:=by rw[IntKind.wrap_i64];omega
  have hvb:IntKind.u8.wrap (65+b)=65+b:=by rw[IntKind.wrap_u8];omega
  go_enter Tryz.func23,Tryz.ntmps23;go_wp2_with (go_at_call 54;first|(refine(aM _ _ _ _ (by omega) (by omega)).mono ?_;rintro e w' ⟨rfl,rfl⟩)|(refine(aJ _ _ _ _ (by omega)).mono ?_;rintro e w' ⟨rfl,rfl⟩));refine HC.out.mono ?_;rintro r w1 ⟨rfl,hb1⟩;have HB1:=aA (aC HB0.out hb1)
  have HRD1:=aA (HRD.out.below hb1);have HL1:=aA (aB HL0.out hb1 (by simp))
  have hlt1:w.heap.size<w1.heap.size:=eB (by simp) hb1.size;clear hb1 HC HL0 HB0 HRD;obtain⟨l0,l1,l2,l3,l4⟩:=HL1.out;go_wp2_with fail;refine(dX 3 (by omega) _).mono ?_;rintro r w' ⟨rfl,hw'⟩;obtain rfl:=hw'.symm;clear hw';rw[show((dR 3:Nat):Int)=3 from rfl];have HS1:=HL1
  have HNA:=aA (fun u=>kK u);go_wp2_with fail;have hl5:L5 w1 w.heap.size 3 to a b pa n cap:=⟨l0,l1,l2,l3,l4⟩
  have HL5:=aA hl5;have HLT:=aA hlt1
  clear l0 l1 l2 l3 l4 hl5;rename_i K0 hK0;refine wp_region_held_drew (S:=fun u=>L5 u w.heap.size 3 to a b pa n cap) (by kernel_rfl) (by first|with_reducible exact HL5.out|with_reducible exact aE HL5.out|with_reducible exact aB HL5.out ((aD _ _).alloc (Nat.le_refl _) _) HLT.out|with_reducible exact aB HL5.out (((aD _ _).alloc (Nat.le_refl _) _).drew) HLT.out|with_reducible exact aB HL5.out (((aD _ _).alloc (Nat.le_refl _) _).alloc (by simp) _) HLT.out|with_reducible exact aB HL5.out ((((aD _ _).alloc (Nat.le_refl _) _).alloc (by simp) _).drew) HLT.out|with_reducible exact aB HL5.out ((((aD _ _).drew).alloc (by simp) _).alloc (by simp) _) HLT.out|with_reducible exact aB HL5.out (((aD _ _).drew).alloc (by simp) _) HLT.out) (fun hHeld=>?_);refine wpAnyH_take (i:=1) (v:=?_) rfl (by kernel_rfl) (by kernel_rfl) (by kernel_rfl) (fun _ _ _ h=>h) (Or.inl ⟨by rfl,?_⟩) (by assumption) ?_;rotate_left
  ·(intro w9 hSw;(try dsimp only at hSw);go_simp)<;>with_reducible rfl
  try simp only[Act.put,aI]
  refine wpAnyH_take (i:=2) (v:=?_) rfl (by kernel_rfl) (by kernel_rfl) (by kernel_rfl) (fun _ _ _ h=>h) (Or.inl ⟨by rfl,?_⟩) (by assumption) ?_;rotate_left
  ·(intro w9 hSw;(try dsimp only at hSw);go_simp)<;>with_reducible rfl
  try simp only[Act.put,aI]
  refine wpAnyH_take (i:=6) (v:=?_) rfl (by kernel_rfl) (by kernel_rfl) (by kernel_rfl) (fun _ _ _ h=>h) (Or.inl ⟨by rfl,?_⟩) (by assumption) ?_;rotate_left
  ·(intro w9 hSw;(try dsimp only at hSw);go_simp)<;>with_reducible rfl
  try simp only[Act.put,aI]
  refine wpAnyH_take (i:=7) (v:=?_) rfl (by kernel_rfl) (by kernel_rfl) (by kernel_rfl) (fun _ _ _ h=>h) (Or.inl ⟨by rfl,?_⟩) (by assumption) ?_;rotate_left
  ·(intro w9 hSw;(try dsimp only at hSw);go_simp)<;>with_reducible rfl
  try simp only[Act.put,aI]
  refine wpAnyH_take (i:=8) (v:=?_) rfl (by kernel_rfl) (by kernel_rfl) (by kernel_rfl) (fun _ _ _ h=>h) (Or.inl ⟨by rfl,?_⟩) (by assumption) ?_;rotate_left
  ·(intro w9 hSw;(try dsimp only at hSw);go_simp)<;>with_reducible rfl
  try simp only[Act.put,aI]
  refine wpAnyH_take (i:=9) (v:=?_) rfl (by kernel_rfl) (by kernel_rfl) (by kernel_rfl) (fun _ _ _ h=>h) (Or.inl ⟨by rfl,?_⟩) (by assumption) ?_;rotate_left
  ·(intro w9 hSw;(try dsimp only at hSw);go_simp)<;>with_reducible rfl
  try simp only[Act.put,aI]
  refine wpAnyH_ready (rs:=[0,10]) (by kernel_rfl) (by simp) ?_;refine AllReadyH.cons rfl (fun K hK=>?_) ?_;rotate_left;refine AllReadyH.cons rfl (fun K hK=>?_) AllReadyH.nil;go_simp
  (repeat(rename_i hwq;clear hwq))
  refine hK.out _ _ (by first|with_reducible exact HL5.out|with_reducible exact aE HL5.out|with_reducible exact aB HL5.out ((aD _ _).alloc (Nat.le_refl _) _) HLT.out|with_reducible exact aB HL5.out (((aD _ _).alloc (Nat.le_refl _) _).drew) HLT.out|with_reducible exact aB HL5.out (((aD _ _).alloc (Nat.le_refl _) _).alloc (by simp) _) HLT.out|with_reducible exact aB HL5.out ((((aD _ _).alloc (Nat.le_refl _) _).alloc (by simp) _).drew) HLT.out|with_reducible exact aB HL5.out ((((aD _ _).drew).alloc (by simp) _).alloc (by simp) _) HLT.out|with_reducible exact aB HL5.out (((aD _ _).drew).alloc (by simp) _) HLT.out) (fun hHeld2=>?_);clear hK K hHeld;have hHeld:=hHeld2
  clear hHeld2;try simp only[Act.put,aI]
  refine wpAnyH_ready (rs:=[0,11]) (by kernel_rfl) (by simp) ?_;refine AllReadyH.cons rfl (fun K hK=>?_) ?_;rotate_left;refine AllReadyH.cons rfl (fun K hK=>?_) AllReadyH.nil;go_simp
  (repeat(rename_i hwq;clear hwq))
  refine hK.out _ _ (by first|with_reducible exact HL5.out|with_reducible exact aE HL5.out|with_reducible exact aB HL5.out ((aD _ _).alloc (Nat.le_refl _) _) HLT.out|with_reducible exact aB HL5.out (((aD _ _).alloc (Nat.le_refl _) _).drew) HLT.out|with_reducible exact aB HL5.out (((aD _ _).alloc (Nat.le_refl _) _).alloc (by simp) _) HLT.out|with_reducible exact aB HL5.out ((((aD _ _).alloc (Nat.le_refl _) _).alloc (by simp) _).drew) HLT.out|with_reducible exact aB HL5.out ((((aD _ _).drew).alloc (by simp) _).alloc (by simp) _) HLT.out|with_reducible exact aB HL5.out (((aD _ _).drew).alloc (by simp) _) HLT.out) (fun hHeld2=>?_);clear hK K hHeld;have hHeld:=hHeld2
  clear hHeld2;try simp only[Act.put,aI]
  refine wpAnyH_ready (rs:=[0]) (by kernel_rfl) (by simp) ?_;refine AllReadyH.cons rfl (fun K hK=>?_) AllReadyH.nil;go_simp
  (repeat(rename_i hwq;clear hwq))
  go_wp2_with (go_at_call 32;refine(HNA.out _).mono ?_;rintro r w' ⟨rfl,hw'⟩;rw[hw'];clear hw');refine hK.out _ _ (by first|with_reducible exact HL5.out|with_reducible exact aE HL5.out|with_reducible exact aB HL5.out ((aD _ _).alloc (Nat.le_refl _) _) HLT.out|with_reducible exact aB HL5.out (((aD _ _).alloc (Nat.le_refl _) _).drew) HLT.out|with_reducible exact aB HL5.out (((aD _ _).alloc (Nat.le_refl _) _).alloc (by simp) _) HLT.out|with_reducible exact aB HL5.out ((((aD _ _).alloc (Nat.le_refl _) _).alloc (by simp) _).drew) HLT.out|with_reducible exact aB HL5.out ((((aD _ _).drew).alloc (by simp) _).alloc (by simp) _) HLT.out|with_reducible exact aB HL5.out (((aD _ _).drew).alloc (by simp) _) HLT.out) (fun hHeld2=>?_);clear hK K hHeld;have hHeld:=hHeld2
  clear hHeld2;try simp only[Act.put,aI]
  refine wpAnyH_take (i:=3) (v:=?_) rfl (by kernel_rfl) (by kernel_rfl) (by kernel_rfl) (fun _ _ _ h=>h) (Or.inl ⟨by rfl,?_⟩) (by assumption) ?_;rotate_left
  ·(intro w9 hSw;(try dsimp only at hSw);go_simp)<;>with_reducible rfl
  try simp only[Act.put,aI]
  refine wpAnyH_ready (rs:=[4]) (by kernel_rfl) (by simp) ?_;refine AllReadyH.cons rfl (fun K hK=>?_) AllReadyH.nil;go_simp
  (repeat(rename_i hwq;clear hwq))
  refine hK.out _ _ (by first|with_reducible exact HL5.out|with_reducible exact aE HL5.out|with_reducible exact aB HL5.out ((aD _ _).alloc (Nat.le_refl _) _) HLT.out|with_reducible exact aB HL5.out (((aD _ _).alloc (Nat.le_refl _) _).drew) HLT.out|with_reducible exact aB HL5.out (((aD _ _).alloc (Nat.le_refl _) _).alloc (by simp) _) HLT.out|with_reducible exact aB HL5.out ((((aD _ _).alloc (Nat.le_refl _) _).alloc (by simp) _).drew) HLT.out|with_reducible exact aB HL5.out ((((aD _ _).drew).alloc (by simp) _).alloc (by simp) _) HLT.out|with_reducible exact aB HL5.out (((aD _ _).drew).alloc (by simp) _) HLT.out) (fun hHeld2=>?_);clear hK K hHeld;have hHeld:=hHeld2
  clear hHeld2;try simp only[Act.put,aI]
  refine wpAnyH_take (i:=5) (v:=?_) rfl (by kernel_rfl) (by kernel_rfl) (by kernel_rfl) (fun _ _ _ h=>h) (Or.inl ⟨by rfl,?_⟩) (by assumption) ?_;rotate_left
  ·(intro w9 hSw;(try dsimp only at hSw);go_simp)<;>with_reducible rfl
  try simp only[Act.put,aI]
  refine wpAnyH_take (i:=12) (v:=?_) rfl (by kernel_rfl) (by kernel_rfl) (by kernel_rfl) (fun _ _ _ h=>h) (Or.inl ⟨by rfl,?_⟩) (by assumption) ?_;rotate_left
  ·(intro w9 hSw;(try dsimp only at hSw);go_simp)<;>with_reducible rfl
  try simp only[Act.put,aI]
  refine wpAnyH_take (i:=13) (v:=?_) rfl (by kernel_rfl) (by kernel_rfl) (by kernel_rfl) (fun _ _ _ h=>h) (Or.inl ⟨by rfl,?_⟩) (by assumption) ?_;rotate_left
  ·(intro w9 hSw;(try dsimp only at hSw);go_simp)<;>with_reducible rfl
  try simp only[Act.put,aI]
  refine wpAnyH_done (by kernel_rfl) ?_ _;rotate_left;go_simp
  (repeat(rename_i hwq;clear hwq))
  go_wp2_with (go_at_call 32;refine(HNA.out _).mono ?_;rintro r w' ⟨rfl,hw'⟩;rw[hw'];clear hw');refine hK.out _ _ (by first|with_reducible exact HL5.out|with_reducible exact aE HL5.out|with_reducible exact aB HL5.out ((aD _ _).alloc (Nat.le_refl _) _) HLT.out|with_reducible exact aB HL5.out (((aD _ _).alloc (Nat.le_refl _) _).drew) HLT.out|with_reducible exact aB HL5.out (((aD _ _).alloc (Nat.le_refl _) _).alloc (by simp) _) HLT.out|with_reducible exact aB HL5.out ((((aD _ _).alloc (Nat.le_refl _) _).alloc (by simp) _).drew) HLT.out|with_reducible exact aB HL5.out ((((aD _ _).drew).alloc (by simp) _).alloc (by simp) _) HLT.out|with_reducible exact aB HL5.out (((aD _ _).drew).alloc (by simp) _) HLT.out) (fun hHeld2=>?_);clear hK K hHeld;have hHeld:=hHeld2
  clear hHeld2;try simp only[Act.put,aI]
  refine wpAnyH_take (i:=3) (v:=?_) rfl (by kernel_rfl) (by kernel_rfl) (by kernel_rfl) (fun _ _ _ h=>h) (Or.inl ⟨by rfl,?_⟩) (by assumption) ?_;rotate_left
  ·(intro w9 hSw;(try dsimp only at hSw);go_simp)<;>with_reducible rfl
  try simp only[Act.put,aI]
  refine wpAnyH_ready (rs:=[4,10]) (by kernel_rfl) (by simp) ?_;refine AllReadyH.cons rfl (fun K hK=>?_) ?_;rotate_left;refine AllReadyH.cons rfl (fun K hK=>?_) AllReadyH.nil;go_simp
  (repeat(rename_i hwq;clear hwq))
  refine hK.out _ _ (by first|with_reducible exact HL5.out|with_reducible exact aE HL5.out|with_reducible exact aB HL5.out ((aD _ _).alloc (Nat.le_refl _) _) HLT.out|with_reducible exact aB HL5.out (((aD _ _).alloc (Nat.le_refl _) _).drew) HLT.out|with_reducible exact aB HL5.out (((aD _ _).alloc (Nat.le_refl _) _).alloc (by simp) _) HLT.out|with_reducible exact aB HL5.out ((((aD _ _).alloc (Nat.le_refl _) _).alloc (by simp) _).drew) HLT.out|with_reducible exact aB HL5.out ((((aD _ _).drew).alloc (by simp) _).alloc (by simp) _) HLT.out|with_reducible exact aB HL5.out (((aD _ _).drew).alloc (by simp) _) HLT.out) (fun hHeld2=>?_);clear hK K hHeld;have hHeld:=hHeld2
  clear hHeld2;try simp only[Act.put,aI]
  refine wpAnyH_ready (rs:=[4,11]) (by kernel_rfl) (by simp) ?_;refine AllReadyH.cons rfl (fun K hK=>?_) ?_;rotate_left;refine AllReadyH.cons rfl (fun K hK=>?_) AllReadyH.nil;go_simp
  (repeat(rename_i hwq;clear hwq))
  refine hK.out _ _ (by first|with_reducible exact HL5.out|with_reducible exact aE HL5.out|with_reducible exact aB HL5.out ((aD _ _).alloc (Nat.le_refl _) _) HLT.out|with_reducible exact aB HL5.out (((aD _ _).alloc (Nat.le_refl _) _).drew) HLT.out|with_reducible exact aB HL5.out (((aD _ _).alloc (Nat.le_refl _) _).alloc (by simp) _) HLT.out|with_reducible exact aB HL5.out ((((aD _ _).alloc (Nat.le_refl _) _).alloc (by simp) _).drew) HLT.out|with_reducible exact aB HL5.out ((((aD _ _).drew).alloc (by simp) _).alloc (by simp) _) HLT.out|with_reducible exact aB HL5.out (((aD _ _).drew).alloc (by simp) _) HLT.out) (fun hHeld2=>?_);clear hK K hHeld;have hHeld:=hHeld2
  clear hHeld2;try simp only[Act.put,aI]
  refine wpAnyH_ready (rs:=[4]) (by kernel_rfl) (by simp) ?_;refine AllReadyH.cons rfl (fun K hK=>?_) AllReadyH.nil;go_simp
  (repeat(rename_i hwq;clear hwq))
  refine hK.out _ _ (by first|with_reducible exact HL5.out|with_reducible exact aE HL5.out|with_reducible exact aB HL5.out ((aD _ _).alloc (Nat.le_refl _) _) HLT.out|with_reducible exact aB HL5.out (((aD _ _).alloc (Nat.le_refl _) _).drew) HLT.out|with_reducible exact aB HL5.out (((aD _ _).alloc (Nat.le_refl _) _).alloc (by simp) _) HLT.out|with_reducible exact aB HL5.out ((((aD _ _).alloc (Nat.le_refl _) _).alloc (by simp) _).drew) HLT.out|with_reducible exact aB HL5.out ((((aD _ _).drew).alloc (by simp) _).alloc (by simp) _) HLT.out|with_reducible exact aB HL5.out (((aD _ _).drew).alloc (by simp) _) HLT.out) (fun hHeld2=>?_);clear hK K hHeld;have hHeld:=hHeld2
  clear hHeld2;try simp only[Act.put,aI]
  refine wpAnyH_take (i:=5) (v:=?_) rfl (by kernel_rfl) (by kernel_rfl) (by kernel_rfl) (fun _ _ _ h=>h) (Or.inl ⟨by rfl,?_⟩) (by assumption) ?_;rotate_left
  ·(intro w9 hSw;(try dsimp only at hSw);go_simp)<;>with_reducible rfl
  try simp only[Act.put,aI]
  refine wpAnyH_take (i:=12) (v:=?_) rfl (by kernel_rfl) (by kernel_rfl) (by kernel_rfl) (fun _ _ _ h=>h) (Or.inl ⟨by rfl,?_⟩) (by assumption) ?_;rotate_left
  ·(intro w9 hSw;(try dsimp only at hSw);go_simp)<;>with_reducible rfl
  try simp only[Act.put,aI]
  refine wpAnyH_take (i:=13) (v:=?_) rfl (by kernel_rfl) (by kernel_rfl) (by kernel_rfl) (fun _ _ _ h=>h) (Or.inl ⟨by rfl,?_⟩) (by assumption) ?_;rotate_left
  ·(intro w9 hSw;(try dsimp only at hSw);go_simp)<;>with_reducible rfl
  try simp only[Act.put,aI]
  refine wpAnyH_done (by kernel_rfl) ?_ _;rotate_left;go_simp
  (repeat(rename_i hwq;clear hwq))
  go_wp2_with (go_at_call 32;refine(HNA.out _).mono ?_;rintro r w' ⟨rfl,hw'⟩;rw[hw'];clear hw');refine hK.out _ _ (by first|with_reducible exact HL5.out|with_reducible exact aE HL5.out|with_reducible exact aB HL5.out ((aD _ _).alloc (Nat.le_refl _) _) HLT.out|with_reducible exact aB HL5.out (((aD _ _).alloc (Nat.le_refl _) _).drew) HLT.out|with_reducible exact aB HL5.out (((aD _ _).alloc (Nat.le_refl _) _).alloc (by simp) _) HLT.out|with_reducible exact aB HL5.out ((((aD _ _).alloc (Nat.le_refl _) _).alloc (by simp) _).drew) HLT.out|with_reducible exact aB HL5.out ((((aD _ _).drew).alloc (by simp) _).alloc (by simp) _) HLT.out|with_reducible exact aB HL5.out (((aD _ _).drew).alloc (by simp) _) HLT.out) (fun hHeld2=>?_);clear hK K hHeld;have hHeld:=hHeld2
  clear hHeld2;try simp only[Act.put,aI]
  refine wpAnyH_take (i:=3) (v:=?_) rfl (by kernel_rfl) (by kernel_rfl) (by kernel_rfl) (fun _ _ _ h=>h) (Or.inl ⟨by rfl,?_⟩) (by assumption) ?_;rotate_left
  ·(intro w9 hSw;(try dsimp only at hSw);go_simp)<;>with_reducible rfl
  try simp only[Act.put,aI]
  refine wpAnyH_ready (rs:=[4,11]) (by kernel_rfl) (by simp) ?_;refine AllReadyH.cons rfl (fun K hK=>?_) ?_;rotate_left;refine AllReadyH.cons rfl (fun K hK=>?_) AllReadyH.nil;go_simp
  (repeat(rename_i hwq;clear hwq))
  refine hK.out _ _ (by first|with_reducible exact HL5.out|with_reducible exact aE HL5.out|with_reducible exact aB HL5.out ((aD _ _).alloc (Nat.le_refl _) _) HLT.out|with_reducible exact aB HL5.out (((aD _ _).alloc (Nat.le_refl _) _).drew) HLT.out|with_reducible exact aB HL5.out (((aD _ _).alloc (Nat.le_refl _) _).alloc (by simp) _) HLT.out|with_reducible exact aB HL5.out ((((aD _ _).alloc (Nat.le_refl _) _).alloc (by simp) _).drew) HLT.out|with_reducible exact aB HL5.out ((((aD _ _).drew).alloc (by simp) _).alloc (by simp) _) HLT.out|with_reducible exact aB HL5.out (((aD _ _).drew).alloc (by simp) _) HLT.out) (fun hHeld2=>?_);clear hK K hHeld;have hHeld:=hHeld2
  clear hHeld2;try simp only[Act.put,aI]
  refine wpAnyH_ready (rs:=[4]) (by kernel_rfl) (by simp) ?_;refine AllReadyH.cons rfl (fun K hK=>?_) AllReadyH.nil;go_simp
  (repeat(rename_i hwq;clear hwq))
  refine hK.out _ _ (by first|with_reducible exact HL5.out|with_reducible exact aE HL5.out|with_reducible exact aB HL5.out ((aD _ _).alloc (Nat.le_refl _) _) HLT.out|with_reducible exact aB HL5.out (((aD _ _).alloc (Nat.le_refl _) _).drew) HLT.out|with_reducible exact aB HL5.out (((aD _ _).alloc (Nat.le_refl _) _).alloc (by simp) _) HLT.out|with_reducible exact aB HL5.out ((((aD _ _).alloc (Nat.le_refl _) _).alloc (by simp) _).drew) HLT.out|with_reducible exact aB HL5.out ((((aD _ _).drew).alloc (by simp) _).alloc (by simp) _) HLT.out|with_reducible exact aB HL5.out (((aD _ _).drew).alloc (by simp) _) HLT.out) (fun hHeld2=>?_);clear hK K hHeld;have hHeld:=hHeld2
  clear hHeld2;try simp only[Act.put,aI]
  refine wpAnyH_take (i:=5) (v:=?_) rfl (by kernel_rfl) (by kernel_rfl) (by kernel_rfl) (fun _ _ _ h=>h) (Or.inl ⟨by rfl,?_⟩) (by assumption) ?_;rotate_left
  ·(intro w9 hSw;(try dsimp only at hSw);go_simp)<;>with_reducible rfl
  try simp only[Act.put,aI]
  refine wpAnyH_take (i:=12) (v:=?_) rfl (by kernel_rfl) (by kernel_rfl) (by kernel_rfl) (fun _ _ _ h=>h) (Or.inl ⟨by rfl,?_⟩) (by assumption) ?_;rotate_left
  ·(intro w9 hSw;(try dsimp only at hSw);go_simp)<;>with_reducible rfl
  try simp only[Act.put,aI]
  refine wpAnyH_take (i:=13) (v:=?_) rfl (by kernel_rfl) (by kernel_rfl) (by kernel_rfl) (fun _ _ _ h=>h) (Or.inl ⟨by rfl,?_⟩) (by assumption) ?_;rotate_left
  ·(intro w9 hSw;(try dsimp only at hSw);go_simp)<;>with_reducible rfl
  try simp only[Act.put,aI]
  refine wpAnyH_done (by kernel_rfl) ?_ _;rotate_left;rotate_left;go_simp
  (repeat(rename_i hwq;clear hwq))
  refine hK.out _ _ (by first|with_reducible exact HL5.out|with_reducible exact aE HL5.out|with_reducible exact aB HL5.out ((aD _ _).alloc (Nat.le_refl _) _) HLT.out|with_reducible exact aB HL5.out (((aD _ _).alloc (Nat.le_refl _) _).drew) HLT.out|with_reducible exact aB HL5.out (((aD _ _).alloc (Nat.le_refl _) _).alloc (by simp) _) HLT.out|with_reducible exact aB HL5.out ((((aD _ _).alloc (Nat.le_refl _) _).alloc (by simp) _).drew) HLT.out|with_reducible exact aB HL5.out ((((aD _ _).drew).alloc (by simp) _).alloc (by simp) _) HLT.out|with_reducible exact aB HL5.out (((aD _ _).drew).alloc (by simp) _) HLT.out) (fun hHeld2=>?_);clear hK K hHeld;have hHeld:=hHeld2
  clear hHeld2;try simp only[Act.put,aI]
  refine wpAnyH_take (i:=5) (v:=?_) rfl (by kernel_rfl) (by kernel_rfl) (by kernel_rfl) (fun _ _ _ h=>h) (Or.inl ⟨by rfl,?_⟩) (by assumption) ?_;rotate_left
  ·(intro w9 hSw;(try dsimp only at hSw);go_simp)<;>with_reducible rfl
  try simp only[Act.put,aI]
  refine wpAnyH_ready (rs:=[10]) (by kernel_rfl) (by simp) ?_;refine AllReadyH.cons rfl (fun K hK=>?_) AllReadyH.nil;go_simp
  (repeat(rename_i hwq;clear hwq))
  refine hK.out _ _ (by first|with_reducible exact HL5.out|with_reducible exact aE HL5.out|with_reducible exact aB HL5.out ((aD _ _).alloc (Nat.le_refl _) _) HLT.out|with_reducible exact aB HL5.out (((aD _ _).alloc (Nat.le_refl _) _).drew) HLT.out|with_reducible exact aB HL5.out (((aD _ _).alloc (Nat.le_refl _) _).alloc (by simp) _) HLT.out|with_reducible exact aB HL5.out ((((aD _ _).alloc (Nat.le_refl _) _).alloc (by simp) _).drew) HLT.out|with_reducible exact aB HL5.out ((((aD _ _).drew).alloc (by simp) _).alloc (by simp) _) HLT.out|with_reducible exact aB HL5.out (((aD _ _).drew).alloc (by simp) _) HLT.out) (fun hHeld2=>?_);clear hK K hHeld;have hHeld:=hHeld2
  clear hHeld2;try simp only[Act.put,aI]
  refine wpAnyH_ready (rs:=[11]) (by kernel_rfl) (by simp) ?_;refine AllReadyH.cons rfl (fun K hK=>?_) AllReadyH.nil;go_simp
  (repeat(rename_i hwq;clear hwq))
  refine hK.out _ _ (by first|with_reducible exact HL5.out|with_reducible exact aE HL5.out|with_reducible exact aB HL5.out ((aD _ _).alloc (Nat.le_refl _) _) HLT.out|with_reducible exact aB HL5.out (((aD _ _).alloc (Nat.le_refl _) _).drew) HLT.out|with_reducible exact aB HL5.out (((aD _ _).alloc (Nat.le_refl _) _).alloc (by simp) _) HLT.out|with_reducible exact aB HL5.out ((((aD _ _).alloc (Nat.le_refl _) _).alloc (by simp) _).drew) HLT.out|with_reducible exact aB HL5.out ((((aD _ _).drew).alloc (by simp) _).alloc (by simp) _) HLT.out|with_reducible exact aB HL5.out (((aD _ _).drew).alloc (by simp) _) HLT.out) (fun hHeld2=>?_);clear hK K hHeld;have hHeld:=hHeld2
  clear hHeld2;try simp only[Act.put,aI]
  refine wpAnyH_take (i:=12) (v:=?_) rfl (by kernel_rfl) (by kernel_rfl) (by kernel_rfl) (fun _ _ _ h=>h) (Or.inl ⟨by rfl,?_⟩) (by assumption) ?_;rotate_left
  ·(intro w9 hSw;(try dsimp only at hSw);go_simp)<;>with_reducible rfl
  try simp only[Act.put,aI]
  refine wpAnyH_take (i:=13) (v:=?_) rfl (by kernel_rfl) (by kernel_rfl) (by kernel_rfl) (fun _ _ _ h=>h) (Or.inl ⟨by rfl,?_⟩) (by assumption) ?_;rotate_left
  ·(intro w9 hSw;(try dsimp only at hSw);go_simp)<;>with_reducible rfl
  try simp only[Act.put,aI]
  refine wpAnyH_done (by kernel_rfl) ?_ _;rotate_left;go_simp
  (repeat(rename_i hwq;clear hwq))
  refine hK.out _ _ (by first|with_reducible exact HL5.out|with_reducible exact aE HL5.out|with_reducible exact aB HL5.out ((aD _ _).alloc (Nat.le_refl _) _) HLT.out|with_reducible exact aB HL5.out (((aD _ _).alloc (Nat.le_refl _) _).drew) HLT.out|with_reducible exact aB HL5.out (((aD _ _).alloc (Nat.le_refl _) _).alloc (by simp) _) HLT.out|with_reducible exact aB HL5.out ((((aD _ _).alloc (Nat.le_refl _) _).alloc (by simp) _).drew) HLT.out|with_reducible exact aB HL5.out ((((aD _ _).drew).alloc (by simp) _).alloc (by simp) _) HLT.out|with_reducible exact aB HL5.out (((aD _ _).drew).alloc (by simp) _) HLT.out) (fun hHeld2=>?_);clear hK K hHeld;have hHeld:=hHeld2
  clear hHeld2;try simp only[Act.put,aI]
  refine wpAnyH_take (i:=5) (v:=?_) rfl (by kernel_rfl) (by kernel_rfl) (by kernel_rfl) (fun _ _ _ h=>h) (Or.inl ⟨by rfl,?_⟩) (by assumption) ?_;rotate_left
  ·(intro w9 hSw;(try dsimp only at hSw);go_simp)<;>with_reducible rfl
  try simp only[Act.put,aI]
  refine wpAnyH_ready (rs:=[11]) (by kernel_rfl) (by simp) ?_;refine AllReadyH.cons rfl (fun K hK=>?_) AllReadyH.nil;go_simp
  (repeat(rename_i hwq;clear hwq))
  refine hK.out _ _ (by first|with_reducible exact HL5.out|with_reducible exact aE HL5.out|with_reducible exact aB HL5.out ((aD _ _).alloc (Nat.le_refl _) _) HLT.out|with_reducible exact aB HL5.out (((aD _ _).alloc (Nat.le_refl _) _).drew) HLT.out|with_reducible exact aB HL5.out (((aD _ _).alloc (Nat.le_refl _) _).alloc (by simp) _) HLT.out|with_reducible exact aB HL5.out ((((aD _ _).alloc (Nat.le_refl _) _).alloc (by simp) _).drew) HLT.out|with_reducible exact aB HL5.out ((((aD _ _).drew).alloc (by simp) _).alloc (by simp) _) HLT.out|with_reducible exact aB HL5.out (((aD _ _).drew).alloc (by simp) _) HLT.out) (fun hHeld2=>?_);clear hK K hHeld;have hHeld:=hHeld2
  clear hHeld2;try simp only[Act.put,aI]
  refine wpAnyH_take (i:=12) (v:=?_) rfl (by kernel_rfl) (by kernel_rfl) (by kernel_rfl) (fun _ _ _ h=>h) (Or.inl ⟨by rfl,?_⟩) (by assumption) ?_;rotate_left
  ·(intro w9 hSw;(try dsimp only at hSw);go_simp)<;>with_reducible rfl
  try simp only[Act.put,aI]
  refine wpAnyH_take (i:=13) (v:=?_) rfl (by kernel_rfl) (by kernel_rfl) (by kernel_rfl) (fun _ _ _ h=>h) (Or.inl ⟨by rfl,?_⟩) (by assumption) ?_;rotate_left
  ·(intro w9 hSw;(try dsimp only at hSw);go_simp)<;>with_reducible rfl
  try simp only[Act.put,aI]
  refine wpAnyH_done (by kernel_rfl) ?_ _;rotate_left;rotate_left;go_simp
  (repeat(rename_i hwq;clear hwq))
  refine hK.out _ _ (by first|with_reducible exact HL5.out|with_reducible exact aE HL5.out|with_reducible exact aB HL5.out ((aD _ _).alloc (Nat.le_refl _) _) HLT.out|with_reducible exact aB HL5.out (((aD _ _).alloc (Nat.le_refl _) _).drew) HLT.out|with_reducible exact aB HL5.out (((aD _ _).alloc (Nat.le_refl _) _).alloc (by simp) _) HLT.out|with_reducible exact aB HL5.out ((((aD _ _).alloc (Nat.le_refl _) _).alloc (by simp) _).drew) HLT.out|with_reducible exact aB HL5.out ((((aD _ _).drew).alloc (by simp) _).alloc (by simp) _) HLT.out|with_reducible exact aB HL5.out (((aD _ _).drew).alloc (by simp) _) HLT.out) (fun hHeld2=>?_);clear hK K hHeld;have hHeld:=hHeld2
  clear hHeld2;try simp only[Act.put,aI]
  refine wpAnyH_take (i:=5) (v:=?_) rfl (by kernel_rfl) (by kernel_rfl) (by kernel_rfl) (fun _ _ _ h=>h) (Or.inl ⟨by rfl,?_⟩) (by assumption) ?_;rotate_left
  ·(intro w9 hSw;(try dsimp only at hSw);go_simp)<;>with_reducible rfl
  try simp only[Act.put,aI]
  refine wpAnyH_ready (rs:=[11]) (by kernel_rfl) (by simp) ?_;refine AllReadyH.cons rfl (fun K hK=>?_) AllReadyH.nil;go_simp
  (repeat(rename_i hwq;clear hwq))
  refine hK.out _ _ (by first|with_reducible exact HL5.out|with_reducible exact aE HL5.out|with_reducible exact aB HL5.out ((aD _ _).alloc (Nat.le_refl _) _) HLT.out|with_reducible exact aB HL5.out (((aD _ _).alloc (Nat.le_refl _) _).drew) HLT.out|with_reducible exact aB HL5.out (((aD _ _).alloc (Nat.le_refl _) _).alloc (by simp) _) HLT.out|with_reducible exact aB HL5.out ((((aD _ _).alloc (Nat.le_refl _) _).alloc (by simp) _).drew) HLT.out|with_reducible exact aB HL5.out ((((aD _ _).drew).alloc (by simp) _).alloc (by simp) _) HLT.out|with_reducible exact aB HL5.out (((aD _ _).drew).alloc (by simp) _) HLT.out) (fun hHeld2=>?_);clear hK K hHeld;have hHeld:=hHeld2
  clear hHeld2;try simp only[Act.put,aI]
  refine wpAnyH_take (i:=12) (v:=?_) rfl (by kernel_rfl) (by kernel_rfl) (by kernel_rfl) (fun _ _ _ h=>h) (Or.inl ⟨by rfl,?_⟩) (by assumption) ?_;rotate_left
  ·(intro w9 hSw;(try dsimp only at hSw);go_simp)<;>with_reducible rfl
  try simp only[Act.put,aI]
  refine wpAnyH_take (i:=13) (v:=?_) rfl (by kernel_rfl) (by kernel_rfl) (by kernel_rfl) (fun _ _ _ h=>h) (Or.inl ⟨by rfl,?_⟩) (by assumption) ?_;rotate_left
  ·(intro w9 hSw;(try dsimp only at hSw);go_simp)<;>with_reducible rfl
  try simp only[Act.put,aI]
  refine wpAnyH_done (by kernel_rfl) ?_ _;rotate_left
  all_goals(
   have HF:Hid (R=gC 3 to a b n f):=by rw[←HR.out];exact aA (jG HW.out (by rw[HRAW.out];simp))
   rw[HRAW.out]at HF;clear HR HW HRAW HNA;obtain⟨l0,l1,l2,l3,l4⟩:=HL5.out;clear hcv;obtain⟨x00,x01,x02,x03,x04⟩:L5 (((w1.alloc (.cells #[.int .u8 (65+to)] 5)).alloc (.cells #[.string ⟨#[]⟩,.string ⟨#[115,101,116]⟩,.string ⟨#[97,100,100]⟩,.string ⟨#[109,117,108]⟩,.string ⟨#[97,112,97,114,116]⟩,.string ⟨#[100,111]⟩,.string ⟨#[114,111,117,110,100]⟩,.string ⟨#[98,97,99,107]⟩,.string ⟨#[115,104,111,119]⟩] 9)).alloc (.cells #[.int .u8 (65+a)] 5)) w.heap.size 3 to a b pa n cap:=aB HL5.out (aP (aP (aP (aD _ _)))) HLT.out;have hca0:=cM a0 a5 ((w1.alloc (.cells #[.int .u8 (65+to)] 5)).alloc (.cells #[.string ⟨#[]⟩,.string ⟨#[115,101,116]⟩,.string ⟨#[97,100,100]⟩,.string ⟨#[109,117,108]⟩,.string ⟨#[97,112,97,114,116]⟩,.string ⟨#[100,111]⟩,.string ⟨#[114,111,117,110,100]⟩,.string ⟨#[98,97,99,107]⟩,.string ⟨#[115,104,111,119]⟩] 9)) (w1.heap.size+1+1) (by simp) 5
   have hcb0:=cM b0 b5 (((w1.alloc (.cells #[.int .u8 (65+to)] 5)).alloc (.cells #[.string ⟨#[]⟩,.string ⟨#[115,101,116]⟩,.string ⟨#[97,100,100]⟩,.string ⟨#[109,117,108]⟩,.string ⟨#[97,112,97,114,116]⟩,.string ⟨#[100,111]⟩,.string ⟨#[114,111,117,110,100]⟩,.string ⟨#[98,97,99,107]⟩,.string ⟨#[115,104,111,119]⟩] 9)).alloc (.cells #[.int .u8 (65+a)] 5)) (w1.heap.size+1+1+1) (by simp) 5;obtain⟨y00,y01,y02,y03,y04⟩:L5 ((((w1.alloc (.cells #[.int .u8 (65+to)] 5)).alloc (.cells #[.string ⟨#[]⟩,.string ⟨#[115,101,116]⟩,.string ⟨#[97,100,100]⟩,.string ⟨#[109,117,108]⟩,.string ⟨#[97,112,97,114,116]⟩,.string ⟨#[100,111]⟩,.string ⟨#[114,111,117,110,100]⟩,.string ⟨#[98,97,99,107]⟩,.string ⟨#[115,104,111,119]⟩] 9)).alloc (.cells #[.int .u8 (65+a)] 5)).alloc (.cells #[.int .u8 (65+b)] 5)) w.heap.size 3 to a b pa n cap:=aB HL5.out (aP (aP (aP (aP (aD _ _))))) HLT.out;obtain⟨x10,x11,x12,x13,x14⟩:L5 (((w1.alloc (.cells #[.string ⟨#[]⟩,.string ⟨#[115,101,116]⟩,.string ⟨#[97,100,100]⟩,.string ⟨#[109,117,108]⟩,.string ⟨#[97,112,97,114,116]⟩,.string ⟨#[100,111]⟩,.string ⟨#[114,111,117,110,100]⟩,.string ⟨#[98,97,99,107]⟩,.string ⟨#[115,104,111,119]⟩] 9)).alloc (.cells #[.int .u8 (65+to)] 5)).alloc (.cells #[.int .u8 (65+a)] 5)) w.heap.size 3 to a b pa n cap:=aB HL5.out (aP (aP (aP (aD _ _)))) HLT.out;have hca1:=cM a0 a5 ((w1.alloc (.cells #[.string ⟨#[]⟩,.string ⟨#[115,101,116]⟩,.string ⟨#[97,100,100]⟩,.string ⟨#[109,117,108]⟩,.string ⟨#[97,112,97,114,116]⟩,.string ⟨#[100,111]⟩,.string ⟨#[114,111,117,110,100]⟩,.string ⟨#[98,97,99,107]⟩,.string ⟨#[115,104,111,119]⟩] 9)).alloc (.cells #[.int .u8 (65+to)] 5)) (w1.heap.size+1+1) (by simp) 5
   have hcb1:=cM b0 b5 (((w1.alloc (.cells #[.string ⟨#[]⟩,.string ⟨#[115,101,116]⟩,.string ⟨#[97,100,100]⟩,.string ⟨#[109,117,108]⟩,.string ⟨#[97,112,97,114,116]⟩,.string ⟨#[100,111]⟩,.string ⟨#[114,111,117,110,100]⟩,.string ⟨#[98,97,99,107]⟩,.string ⟨#[115,104,111,119]⟩] 9)).alloc (.cells #[.int .u8 (65+to)] 5)).alloc (.cells #[.int .u8 (65+a)] 5)) (w1.heap.size+1+1+1) (by simp) 5;obtain⟨y10,y11,y12,y13,y14⟩:L5 ((((w1.alloc (.cells #[.string ⟨#[]⟩,.string ⟨#[115,101,116]⟩,.string ⟨#[97,100,100]⟩,.string ⟨#[109,117,108]⟩,.string ⟨#[97,112,97,114,116]⟩,.string ⟨#[100,111]⟩,.string ⟨#[114,111,117,110,100]⟩,.string ⟨#[98,97,99,107]⟩,.string ⟨#[115,104,111,119]⟩] 9)).alloc (.cells #[.int .u8 (65+to)] 5)).alloc (.cells #[.int .u8 (65+a)] 5)).alloc (.cells #[.int .u8 (65+b)] 5)) w.heap.size 3 to a b pa n cap:=aB HL5.out (aP (aP (aP (aP (aD _ _))))) HLT.out;go_wp2
   (try((first|erw[hca0]|erw[hca1]);go_wp2))
   (try((first|erw[hcb0]|erw[hcb1]);go_wp2))
   go_ret;refine⟨congrArg (fun x=>Ending.returned (Value.string x)) ?_,?_⟩
   ·rw[HF.out];apply ByteArray.ext;simp only[ByteArray.data_append,List.append_toArray,List.cons_append,List.nil_append]
   repeat(first|with_reducible exact HB1.out|with_reducible refine lE ?_|with_reducible refine aP ?_))
end Go.Proofs.YtkcmamepoplcdaaGreatDoor
