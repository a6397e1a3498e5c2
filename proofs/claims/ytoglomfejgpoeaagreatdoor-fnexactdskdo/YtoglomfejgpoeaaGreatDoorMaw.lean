/-
  The model writes a line (DskText).
  The model writes a line (DskText).
  The program writes a line: its parts (named, slots, dskWhole).
-/
import Derived.Test.YtoglomfejgpoeaaGreatDoorMav
set_option maxHeartbeats 8000000
set_option maxRecDepth 100000
namespace Go.Proofs.YtoglomfejgpoeaaGreatDoor
open Go.RowKit
set_option linter.unusedVariables false
set_option linter.unusedSimpArgs false
theorem KG (to a b:Int) (pa:Option Addr) (n cap:Nat) (f:Nat→T) (w:World) (h:Rd w pa n cap f):Calls Tryz.prog 34 #[.agg #[.int .i64 4,.int .i64 to,.int .i64 a,.int .i64 b,.slice pa n cap]] w fun r w'=>r= .returned (.string ⟨(dW 4 to a b n f).toArray⟩)∧Below w.heap.size w w':=by
 have hB0:=aG w (.cells #[.int .i64 4,.int .i64 to,.int .i64 a,.int .i64 b,.slice pa n cap] 24);have HL0:=aA (iQ w 4 to a b pa n cap)
 have HRD:=aA (h.below hB0);have HB0:=aA hB0
 have hnI:(n:Int)≤9223372036854775807:=by have:=h.2.1;omega
 clear hB0 h;obtain⟨R,hR⟩:∃R,dW 4 to a b n f=R:=⟨_,rfl⟩
 rw[hR];have HR:=aA hR
 clear hR;by_cases h1:to<0∨(0≤to∧5<to)
 ·have HZ:Hid (R=[]):=by rw[←HR.out];exact aA (aU (aW (fun q=>by have:=q.2.1;omega)))
  go_enter Tryz.func34,Tryz.ntmps34;go_wp2_with (go_at_call 73;first|(refine(aP _ _ _ _ (by omega) (by omega)).mono ?_;rintro e w' ⟨rfl,rfl⟩)|(refine(aL _ _ _ _ (by omega)).mono ?_;rintro e w' ⟨rfl,rfl⟩));go_ret;exact⟨by rw[HZ.out];rfl,HB0.out⟩
 by_cases h2:a<0∨(0≤a∧5<a)
 ·have HZ:Hid (R=[]):=by rw[←HR.out];exact aA (aU (aW (fun q=>by have:=q.2.2.1;omega)))
  go_enter Tryz.func34,Tryz.ntmps34;go_wp2_with (go_at_call 73;first|(refine(aP _ _ _ _ (by omega) (by omega)).mono ?_;rintro e w' ⟨rfl,rfl⟩)|(refine(aL _ _ _ _ (by omega)).mono ?_;rintro e w' ⟨rfl,rfl⟩));go_ret;exact⟨by rw[HZ.out];rfl,HB0.out⟩
 by_cases h3:b<0∨(0≤b∧5<b)
 ·have HZ:Hid (R=[]):=by rw[←HR.out];exact aA (aU (aW (fun q=>by have:=q.2.2.2.1;omega)))
  go_enter Tryz.func34,Tryz.ntmps34;go_wp2_with (go_at_call 73;first|(refine(aP _ _ _ _ (by omega) (by omega)).mono ?_;rintro e w' ⟨rfl,rfl⟩)|(refine(aL _ _ _ _ (by omega)).mono ?_;rintro e w' ⟨rfl,rfl⟩));go_ret;exact⟨by rw[HZ.out];rfl,HB0.out⟩
 obtain⟨ok,hok⟩:∃x,aN n f=x:=⟨_,rfl⟩
 have HC:=aA (bD _ pa n cap f HRD.out);rw[hok]at HC;have t0:0≤to:=by omega
 have t5:to≤5:=by omega
 have a0:0≤a:=by omega
 have a5:a≤5:=by omega
 have b0:0≤b:=by omega
 have b5:b≤5:=by omega
 clear h1 h2 h3;have HOK:=aA hok
 clear hok;cases ok
 ·have HZ:Hid (R=[]):=by rw[←HR.out];exact aA (aU (aW (fun q=>by have:=q.2.2.2.2.1;rw[HOK.out]at this;cases this)))
  go_enter Tryz.func34,Tryz.ntmps34;go_wp2_with (go_at_call 73;first|(refine(aP _ _ _ _ (by omega) (by omega)).mono ?_;rintro e w' ⟨rfl,rfl⟩)|(refine(aL _ _ _ _ (by omega)).mono ?_;rintro e w' ⟨rfl,rfl⟩));refine HC.out.mono ?_;rintro r w1 ⟨rfl,hb1⟩;have HB1:=aA (aC HB0.out hb1)
  clear hb1;go_wp2;go_ret;exact⟨by rw[HZ.out];rfl,HB1.out⟩
 ·skip
  by_cases hn:¬n=0
  ·have HZ:Hid (R=[]):=by rw[←HR.out];exact aA (aU (aW (fun q=>hn (by have:=q.2.2.2.2.2.2.2;revert this;simp))))
   have hnp:(0:Int)<(n:Int):=by omega
   go_enter Tryz.func34,Tryz.ntmps34;go_wp2_with (go_at_call 73;first|(refine(aP _ _ _ _ (by omega) (by omega)).mono ?_;rintro e w' ⟨rfl,rfl⟩)|(refine(aL _ _ _ _ (by omega)).mono ?_;rintro e w' ⟨rfl,rfl⟩));refine HC.out.mono ?_;rintro r w1 ⟨rfl,hb1⟩;have HB1:=aA (aC HB0.out hb1)
   have HRD1:=aA (HRD.out.below hb1);have HL1:=aA (aB HL0.out hb1 (by simp))
   have hlt1:w.heap.size<w1.heap.size:=dR (by simp) hb1.size;clear hb1 HC HL0 HB0 HRD;obtain⟨l0,l1,l2,l3,l4⟩:=HL1.out;go_wp2_with fail;refine(dI 4 (by omega) _).mono ?_;rintro r w' ⟨rfl,hw'⟩;obtain rfl:=hw'.symm;clear hw';rw[show((gA 4:Nat):Int)=3 from rfl];go_wp2;go_ret;exact⟨by rw[HZ.out];rfl,HB1.out⟩
  have hn0:Hid (n=0):=aA (by omega);clear hn;have hnl:¬(0:Int)<(n:Int):=by have:=hn0.out;omega
  have HW:Hid (qS 4 to a b n f=true):=aA (decide_eq_true ⟨⟨by omega,by omega⟩,⟨t0,t5⟩,⟨a0,a5⟩,⟨b0,b5⟩,HOK.out,.inl (by decide),.inl (by decide),.inr hn0.out⟩);have HRAW:=aA (KW to a b n f)
  have hcv:=fun(u:World) (g:Nat) hc=>lB t0 t5 u g hc;have hwto:IntKind.i64.wrap (65+to)=65+to:=by rw[IntKind.wrap_i64];omega
  have hvto:IntKind.u8.wrap (65+to)=65+to:=by rw[IntKind.wrap_u8];omega
  have hwa:IntKind.i64.wrap (65+a)=65+a:=by rw[IntKind.wrap_i64];omega
  have hva:IntKind.u8.wrap (65+a)=65+a:=by rw[IntKind.wrap_u8];omega
  have hwb:IntKind.i64.wrap (65+b)=65+b:=by rw[IntKind.wrap_i64];omega
  have hvb:IntKind.u8.wrap (65+b)=65+b:=by rw[IntKind.wrap_u8];omega
  go_enter Tryz.func34,Tryz.ntmps34;go_wp2_with (go_at_call 73;first|(refine(aP _ _ _ _ (by omega) (by omega)).mono ?_;rintro e w' ⟨rfl,rfl⟩)|(refine(aL _ _ _ _ (by omega)).mono ?_;rintro e w' ⟨rfl,rfl⟩));refine HC.out.mono ?_;rintro r w1 ⟨rfl,hb1⟩;have HB1:=aA (aC HB0.out hb1)
  have HRD1:=aA (HRD.out.below hb1);have HL1:=aA (aB HL0.out hb1 (by simp))
  have hlt1:w.heap.size<w1.heap.size:=dR (by simp) hb1.size;clear hb1 HC HL0 HB0 HRD;obtain⟨l0,l1,l2,l3,l4⟩:=HL1.out;go_wp2_with fail;refine(dI 4 (by omega) _).mono ?_;rintro r w' ⟨rfl,hw'⟩;obtain rfl:=hw'.symm;clear hw';rw[show((gA 4:Nat):Int)=3 from rfl];have HS1:=HL1
  have HNA:=aA (fun u=>jR u);go_wp2_with fail;have hl5:L5 w1 w.heap.size 4 to a b pa n cap:=⟨l0,l1,l2,l3,l4⟩
  have HL5:=aA hl5;have HLT:=aA hlt1
  clear l0 l1 l2 l3 l4 hl5;rename_i K0 hK0;refine wp_region_held_drew (S:=fun u=>L5 u w.heap.size 4 to a b pa n cap) (by kernel_rfl) (by first|with_reducible exact HL5.out|with_reducible exact aE HL5.out|with_reducible exact aB HL5.out ((aD _ _).alloc (Nat.le_refl _) _) HLT.out|with_reducible exact aB HL5.out (((aD _ _).alloc (Nat.le_refl _) _).drew) HLT.out|with_reducible exact aB HL5.out (((aD _ _).alloc (Nat.le_refl _) _).alloc (by simp) _) HLT.out|with_reducible exact aB HL5.out ((((aD _ _).alloc (Nat.le_refl _) _).alloc (by simp) _).drew) HLT.out|with_reducible exact aB HL5.out ((((aD _ _).drew).alloc (by simp) _).alloc (by simp) _) HLT.out|with_reducible exact aB HL5.out (((aD _ _).drew).alloc (by simp) _) HLT.out) (fun hHeld=>?_);refine wpAnyH_take (i:=1) (v:=?_) rfl (by kernel_rfl) (by kernel_rfl) (by kernel_rfl) (fun _ _ _ h=>h) (Or.inl ⟨by rfl,?_⟩) (by assumption) ?_;rotate_left
  ·(intro w9 hSw;(try dsimp only at hSw);go_simp)<;>with_reducible rfl
  try simp only[Act.put,aI]
  refine wpAnyH_take (i:=2) (v:=?_) rfl (by kernel_rfl) (by kernel_rfl) (by kernel_rfl) (fun _ _ _ h=>h) (Or.inl ⟨by rfl,?_⟩) (by assumption) ?_;rotate_left
  ·(intro w9 hSw;(try dsimp only at hSw);go_simp)<;>with_reducible rfl
  try simp only[Act.put,aI]
  refine wpAnyH_take (i:=6) (v:=?_) rfl (by kernel_rfl) (by kernel_rfl) (by kernel_rfl) (fun _ _ _ h=>h) (Or.inl ⟨by rfl,?_⟩) (by assumption) ?_;rotate_left
  ·(intro w9 hSw;(try dsimp only at hSw);go_simp)<;>with_reducible rfl
  try simp only[Act.put,aI]
  refine wpAnyH_take (i:=7) (v:=?_) rfl (by kernel_rfl) (by kernel_rfl) (by kernel_rfl) (fun _ _ _ h=>h) (Or.inl ⟨by rfl,?_⟩) (by assumption) ?_;rotate_left
  ·(intro w9 hSw;(try dsimp only at hSw);go_simp)<;>with_reducible rfl
  try simp only[Act.put,aI]
  refine wpAnyH_take (i:=8) (v:=?_) rfl (by kernel_rfl) (by kernel_rfl) (by kernel_rfl) (fun _ _ _ h=>h) (Or.inl ⟨by rfl,?_⟩) (by assumption) ?_;rotate_left
  ·(intro w9 hSw;(try dsimp only at hSw);go_simp)<;>with_reducible rfl
  try simp only[Act.put,aI]
  refine wpAnyH_take (i:=9) (v:=?_) rfl (by kernel_rfl) (by kernel_rfl) (by kernel_rfl) (fun _ _ _ h=>h) (Or.inl ⟨by rfl,?_⟩) (by assumption) ?_;rotate_left
  ·(intro w9 hSw;(try dsimp only at hSw);go_simp)<;>with_reducible rfl
  try simp only[Act.put,aI]
  refine wpAnyH_ready (rs:=[0,10]) (by kernel_rfl) (by simp) ?_;refine AllReadyH.cons rfl (fun K hK=>?_) ?_;rotate_left;refine AllReadyH.cons rfl (fun K hK=>?_) AllReadyH.nil;go_simp
  (repeat(rename_i hwq;clear hwq))
  refine hK.out _ _ (by first|with_reducible exact HL5.out|with_reducible exact aE HL5.out|with_reducible exact aB HL5.out ((aD _ _).alloc (Nat.le_refl _) _) HLT.out|with_reducible exact aB HL5.out (((aD _ _).alloc (Nat.le_refl _) _).drew) HLT.out|with_reducible exact aB HL5.out (((aD _ _).alloc (Nat.le_refl _) _).alloc (by simp) _) HLT.out|with_reducible exact aB HL5.out ((((aD _ _).alloc (Nat.le_refl _) _).alloc (by simp) _).drew) HLT.out|with_reducible exact aB HL5.out ((((aD _ _).drew).alloc (by simp) _).alloc (by simp) _) HLT.out|with_reducible exact aB HL5.out (((aD _ _).drew).alloc (by simp) _) HLT.out) (fun hHeld2=>?_);clear hK K hHeld;have hHeld:=hHeld2
  clear hHeld2;try simp only[Act.put,aI]
  refine wpAnyH_ready (rs:=[0,11]) (by kernel_rfl) (by simp) ?_;refine AllReadyH.cons rfl (fun K hK=>?_) ?_;rotate_left;refine AllReadyH.cons rfl (fun K hK=>?_) AllReadyH.nil;go_simp
  (repeat(rename_i hwq;clear hwq))
  refine hK.out _ _ (by first|with_reducible exact HL5.out|with_reducible exact aE HL5.out|with_reducible exact aB HL5.out ((aD _ _).alloc (Nat.le_refl _) _) HLT.out|with_reducible exact aB HL5.out (((aD _ _).alloc (Nat.le_refl _) _).drew) HLT.out|with_reducible exact aB HL5.out (((aD _ _).alloc (Nat.le_refl _) _).alloc (by simp) _) HLT.out|with_reducible exact aB HL5.out ((((aD _ _).alloc (Nat.le_refl _) _).alloc (by simp) _).drew) HLT.out|with_reducible exact aB HL5.out ((((aD _ _).drew).alloc (by simp) _).alloc (by simp) _) HLT.out|with_reducible exact aB HL5.out (((aD _ _).drew).alloc (by simp) _) HLT.out) (fun hHeld2=>?_);clear hK K hHeld;have hHeld:=hHeld2
  clear hHeld2;try simp only[Act.put,aI]
  refine wpAnyH_ready (rs:=[0]) (by kernel_rfl) (by simp) ?_;refine AllReadyH.cons rfl (fun K hK=>?_) AllReadyH.nil;go_simp
  (repeat(rename_i hwq;clear hwq))
  go_wp2_with (go_at_call 46;refine(HNA.out _).mono ?_;rintro r w' ⟨rfl,hw'⟩;rw[hw'];clear hw');refine hK.out _ _ (by first|with_reducible exact HL5.out|with_reducible exact aE HL5.out|with_reducible exact aB HL5.out ((aD _ _).alloc (Nat.le_refl _) _) HLT.out|with_reducible exact aB HL5.out (((aD _ _).alloc (Nat.le_refl _) _).drew) HLT.out|with_reducible exact aB HL5.out (((aD _ _).alloc (Nat.le_refl _) _).alloc (by simp) _) HLT.out|with_reducible exact aB HL5.out ((((aD _ _).alloc (Nat.le_refl _) _).alloc (by simp) _).drew) HLT.out|with_reducible exact aB HL5.out ((((aD _ _).drew).alloc (by simp) _).alloc (by simp) _) HLT.out|with_reducible exact aB HL5.out (((aD _ _).drew).alloc (by simp) _) HLT.out) (fun hHeld2=>?_);clear hK K hHeld;have hHeld:=hHeld2
  clear hHeld2;try simp only[Act.put,aI]
  refine wpAnyH_take (i:=3) (v:=?_) rfl (by kernel_rfl) (by kernel_rfl) (by kernel_rfl) (fun _ _ _ h=>h) (Or.inl ⟨by rfl,?_⟩) (by assumption) ?_;rotate_left
  ·(intro w9 hSw;(try dsimp only at hSw);go_simp)<;>with_reducible rfl
  try simp only[Act.put,aI]
  refine wpAnyH_ready (rs:=[4]) (by kernel_rfl) (by simp) ?_;refine AllReadyH.cons rfl (fun K hK=>?_) AllReadyH.nil;go_simp
  (repeat(rename_i hwq;clear hwq))
  refine hK.out _ _ (by first|with_reducible exact HL5.out|with_reducible exact aE HL5.out|with_reducible exact aB HL5.out ((aD _ _).alloc (Nat.le_refl _) _) HLT.out|with_reducible exact aB HL5.out (((aD _ _).alloc (Nat.le_refl _) _).drew) HLT.out|with_reducible exact aB HL5.out (((aD _ _).alloc (Nat.le_refl _) _).alloc (by simp) _) HLT.out|with_reducible exact aB HL5.out ((((aD _ _).alloc (Nat.le_refl _) _).alloc (by simp) _).drew) HLT.out|with_reducible exact aB HL5.out ((((aD _ _).drew).alloc (by simp) _).alloc (by simp) _) HLT.out|with_reducible exact aB HL5.out (((aD _ _).drew).alloc (by simp) _) HLT.out) (fun hHeld2=>?_);clear hK K hHeld;have hHeld:=hHeld2
  clear hHeld2;try simp only[Act.put,aI]
  refine wpAnyH_take (i:=5) (v:=?_) rfl (by kernel_rfl) (by kernel_rfl) (by kernel_rfl) (fun _ _ _ h=>h) (Or.inl ⟨by rfl,?_⟩) (by assumption) ?_;rotate_left
  ·(intro w9 hSw;(try dsimp only at hSw);go_simp)<;>with_reducible rfl
  try simp only[Act.put,aI]
  refine wpAnyH_take (i:=12) (v:=?_) rfl (by kernel_rfl) (by kernel_rfl) (by kernel_rfl) (fun _ _ _ h=>h) (Or.inl ⟨by rfl,?_⟩) (by assumption) ?_;rotate_left
  ·(intro w9 hSw;(try dsimp only at hSw);go_simp)<;>with_reducible rfl
  try simp only[Act.put,aI]
  refine wpAnyH_take (i:=13) (v:=?_) rfl (by kernel_rfl) (by kernel_rfl) (by kernel_rfl) (fun _ _ _ h=>h) (Or.inl ⟨by rfl,?_⟩) (by assumption) ?_;rotate_left
  ·(intro w9 hSw;(try dsimp only at hSw);go_simp)<;>with_reducible rfl
  try simp only[Act.put,aI]
  refine wpAnyH_done (by kernel_rfl) ?_ _;rotate_left;go_simp
  (repeat(rename_i hwq;clear hwq))
  go_wp2_with (go_at_call 46;refine(HNA.out _).mono ?_;rintro r w' ⟨rfl,hw'⟩;rw[hw'];clear hw');refine hK.out _ _ (by first|with_reducible exact HL5.out|with_reducible exact aE HL5.out|with_reducible exact aB HL5.out ((aD _ _).alloc (Nat.le_refl _) _) HLT.out|with_reducible exact aB HL5.out (((aD _ _).alloc (Nat.le_refl _) _).drew) HLT.out|with_reducible exact aB HL5.out (((aD _ _).alloc (Nat.le_refl _) _).alloc (by simp) _) HLT.out|with_reducible exact aB HL5.out ((((aD _ _).alloc (Nat.le_refl _) _).alloc (by simp) _).drew) HLT.out|with_reducible exact aB HL5.out ((((aD _ _).drew).alloc (by simp) _).alloc (by simp) _) HLT.out|with_reducible exact aB HL5.out (((aD _ _).drew).alloc (by simp) _) HLT.out) (fun hHeld2=>?_);clear hK K hHeld;have hHeld:=hHeld2
  clear hHeld2;try simp only[Act.put,aI]
  refine wpAnyH_take (i:=3) (v:=?_) rfl (by kernel_rfl) (by kernel_rfl) (by kernel_rfl) (fun _ _ _ h=>h) (Or.inl ⟨by rfl,?_⟩) (by assumption) ?_;rotate_left
  ·(intro w9 hSw;(try dsimp only at hSw);go_simp)<;>with_reducible rfl
  try simp only[Act.put,aI]
  refine wpAnyH_ready (rs:=[4,10]) (by kernel_rfl) (by simp) ?_;refine AllReadyH.cons rfl (fun K hK=>?_) ?_;rotate_left;refine AllReadyH.cons rfl (fun K hK=>?_) AllReadyH.nil;go_simp
  (repeat(rename_i hwq;clear hwq))
  refine hK.out _ _ (by first|with_reducible exact HL5.out|with_reducible exact aE HL5.out|with_reducible exact aB HL5.out ((aD _ _).alloc (Nat.le_refl _) _) HLT.out|with_reducible exact aB HL5.out (((aD _ _).alloc (Nat.le_refl _) _).drew) HLT.out|with_reducible exact aB HL5.out (((aD _ _).alloc (Nat.le_refl _) _).alloc (by simp) _) HLT.out|with_reducible exact aB HL5.out ((((aD _ _).alloc (Nat.le_refl _) _).alloc (by simp) _).drew) HLT.out|with_reducible exact aB HL5.out ((((aD _ _).drew).alloc (by simp) _).alloc (by simp) _) HLT.out|with_reducible exact aB HL5.out (((aD _ _).drew).alloc (by simp) _) HLT.out) (fun hHeld2=>?_);clear hK K hHeld;have hHeld:=hHeld2
  clear hHeld2;try simp only[Act.put,aI]
  refine wpAnyH_ready (rs:=[4,11]) (by kernel_rfl) (by simp) ?_;refine AllReadyH.cons rfl (fun K hK=>?_) ?_;rotate_left;refine AllReadyH.cons rfl (fun K hK=>?_) AllReadyH.nil;go_simp
  (repeat(rename_i hwq;clear hwq))
  refine hK.out _ _ (by first|with_reducible exact HL5.out|with_reducible exact aE HL5.out|with_reducible exact aB HL5.out ((aD _ _).alloc (Nat.le_refl _) _) HLT.out|with_reducible exact aB HL5.out (((aD _ _).alloc (Nat.le_refl _) _).drew) HLT.out|with_reducible exact aB HL5.out (((aD _ _).alloc (Nat.le_refl _) _).alloc (by simp) _) HLT.out|with_reducible exact aB HL5.out ((((aD _ _).alloc (Nat.le_refl _) _).alloc (by simp) _).drew) HLT.out|with_reducible exact aB HL5.out ((((aD _ _).drew).alloc (by simp) _).alloc (by simp) _) HLT.out|with_reducible exact aB HL5.out (((aD _ _).drew).alloc (by simp) _) HLT.out) (fun hHeld2=>?_);clear hK K hHeld;have hHeld:=hHeld2
  clear hHeld2;try simp only[Act.put,aI]
  refine wpAnyH_ready (rs:=[4]) (by kernel_rfl) (by simp) ?_;refine AllReadyH.cons rfl (fun K hK=>?_) AllReadyH.nil;go_simp
  (repeat(rename_i hwq;clear hwq))
  refine hK.out _ _ (by first|with_reducible exact HL5.out|with_reducible exact aE HL5.out|with_reducible exact aB HL5.out ((aD _ _).alloc (Nat.le_refl _) _) HLT.out|with_reducible exact aB HL5.out (((aD _ _).alloc (Nat.le_refl _) _).drew) HLT.out|with_reducible exact aB HL5.out (((aD _ _).alloc (Nat.le_refl _) _).alloc (by simp) _) HLT.out|with_reducible exact aB HL5.out ((((aD _ _).alloc (Nat.le_refl _) _).alloc (by simp) _).drew) HLT.out|with_reducible exact aB HL5.out ((((aD _ _).drew).alloc (by simp) _).alloc (by simp) _) HLT.out|with_reducible exact aB HL5.out (((aD _ _).drew).alloc (by simp) _) HLT.out) (fun hHeld2=>?_);clear hK K hHeld;have hHeld:=hHeld2
  clear hHeld2;try simp only[Act.put,aI]
  refine wpAnyH_take (i:=5) (v:=?_) rfl (by kernel_rfl) (by kernel_rfl) (by kernel_rfl) (fun _ _ _ h=>h) (Or.inl ⟨by rfl,?_⟩) (by assumption) ?_;rotate_left
  ·(intro w9 hSw;(try dsimp only at hSw);go_simp)<;>with_reducible rfl
  try simp only[Act.put,aI]
  refine wpAnyH_take (i:=12) (v:=?_) rfl (by kernel_rfl) (by kernel_rfl) (by kernel_rfl) (fun _ _ _ h=>h) (Or.inl ⟨by rfl,?_⟩) (by assumption) ?_;rotate_left
  ·(intro w9 hSw;(try dsimp only at hSw);go_simp)<;>with_reducible rfl
  try simp only[Act.put,aI]
  refine wpAnyH_take (i:=13) (v:=?_) rfl (by kernel_rfl) (by kernel_rfl) (by kernel_rfl) (fun _ _ _ h=>h) (Or.inl ⟨by rfl,?_⟩) (by assumption) ?_;rotate_left
  ·(intro w9 hSw;(try dsimp only at hSw);go_simp)<;>with_reducible rfl
  try simp only[Act.put,aI]
  refine wpAnyH_done (by kernel_rfl) ?_ _;rotate_left;go_simp
  (repeat(rename_i hwq;clear hwq))
  go_wp2_with (go_at_call 46;refine(HNA.out _).mono ?_;rintro r w' ⟨rfl,hw'⟩;rw[hw'];clear hw');refine hK.out _ _ (by first|with_reducible exact HL5.out|with_reducible exact aE HL5.out|with_reducible exact aB HL5.out ((aD _ _).alloc (Nat.le_refl _) _) HLT.out|with_reducible exact aB HL5.out (((aD _ _).alloc (Nat.le_refl _) _).drew) HLT.out|with_reducible exact aB HL5.out (((aD _ _).alloc (Nat.le_refl _) _).alloc (by simp) _) HLT.out|with_reducible exact aB HL5.out ((((aD _ _).alloc (Nat.le_refl _) _).alloc (by simp) _).drew) HLT.out|with_reducible exact aB HL5.out ((((aD _ _).drew).alloc (by simp) _).alloc (by simp) _) HLT.out|with_reducible exact aB HL5.out (((aD _ _).drew).alloc (by simp) _) HLT.out) (fun hHeld2=>?_);clear hK K hHeld;have hHeld:=hHeld2
  clear hHeld2;try simp only[Act.put,aI]
  refine wpAnyH_take (i:=3) (v:=?_) rfl (by kernel_rfl) (by kernel_rfl) (by kernel_rfl) (fun _ _ _ h=>h) (Or.inl ⟨by rfl,?_⟩) (by assumption) ?_;rotate_left
  ·(intro w9 hSw;(try dsimp only at hSw);go_simp)<;>with_reducible rfl
  try simp only[Act.put,aI]
  refine wpAnyH_ready (rs:=[4,11]) (by kernel_rfl) (by simp) ?_;refine AllReadyH.cons rfl (fun K hK=>?_) ?_;rotate_left;refine AllReadyH.cons rfl (fun K hK=>?_) AllReadyH.nil;go_simp
  (repeat(rename_i hwq;clear hwq))
  refine hK.out _ _ (by first|with_reducible exact HL5.out|with_reducible exact aE HL5.out|with_reducible exact aB HL5.out ((aD _ _).alloc (Nat.le_refl _) _) HLT.out|with_reducible exact aB HL5.out (((aD _ _).alloc (Nat.le_refl _) _).drew) HLT.out|with_reducible exact aB HL5.out (((aD _ _).alloc (Nat.le_refl _) _).alloc (by simp) _) HLT.out|with_reducible exact aB HL5.out ((((aD _ _).alloc (Nat.le_refl _) _).alloc (by simp) _).drew) HLT.out|with_reducible exact aB HL5.out ((((aD _ _).drew).alloc (by simp) _).alloc (by simp) _) HLT.out|with_reducible exact aB HL5.out (((aD _ _).drew).alloc (by simp) _) HLT.out) (fun hHeld2=>?_);clear hK K hHeld;have hHeld:=hHeld2
  clear hHeld2;try simp only[Act.put,aI]
  refine wpAnyH_ready (rs:=[4]) (by kernel_rfl) (by simp) ?_;refine AllReadyH.cons rfl (fun K hK=>?_) AllReadyH.nil;go_simp
  (repeat(rename_i hwq;clear hwq))
  refine hK.out _ _ (by first|with_reducible exact HL5.out|with_reducible exact aE HL5.out|with_reducible exact aB HL5.out ((aD _ _).alloc (Nat.le_refl _) _) HLT.out|with_reducible exact aB HL5.out (((aD _ _).alloc (Nat.le_refl _) _).drew) HLT.out|with_reducible exact aB HL5.out (((aD _ _).alloc (Nat.le_refl _) _).alloc (by simp) _) HLT.out|with_reducible exact aB HL5.out ((((aD _ _).alloc (Nat.le_refl _) _).alloc (by simp) _).drew) HLT.out|with_reducible exact aB HL5.out ((((aD _ _).drew).alloc (by simp) _).alloc (by simp) _) HLT.out|with_reducible exact aB HL5.out (((aD _ _).drew).alloc (by simp) _) HLT.out) (fun hHeld2=>?_);clear hK K hHeld;have hHeld:=hHeld2
  clear hHeld2;try simp only[Act.put,aI]
  refine wpAnyH_take (i:=5) (v:=?_) rfl (by kernel_rfl) (by kernel_rfl) (by kernel_rfl) (fun _ _ _ h=>h) (Or.inl ⟨by rfl,?_⟩) (by assumption) ?_;rotate_left
  ·(intro w9 hSw;(try dsimp only at hSw);go_simp)<;>with_reducible rfl
  try simp only[Act.put,aI]
  refine wpAnyH_take (i:=12) (v:=?_) rfl (by kernel_rfl) (by kernel_rfl) (by kernel_rfl) (fun _ _ _ h=>h) (Or.inl ⟨by rfl,?_⟩) (by assumption) ?_;rotate_left
  ·(intro w9 hSw;(try dsimp only at hSw);go_simp)<;>with_reducible rfl
  try simp only[Act.put,aI]
  refine wpAnyH_take (i:=13) (v:=?_) rfl (by kernel_rfl) (by kernel_rfl) (by kernel_rfl) (fun _ _ _ h=>h) (Or.inl ⟨by rfl,?_⟩) (by assumption) ?_;rotate_left
  ·(intro w9 hSw;(try dsimp only at hSw);go_simp)<;>with_reducible rfl
  try simp only[Act.put,aI]
  refine wpAnyH_done (by kernel_rfl) ?_ _;rotate_left;rotate_left;go_simp
  (repeat(rename_i hwq;clear hwq))
  refine hK.out _ _ (by first|with_reducible exact HL5.out|with_reducible exact aE HL5.out|with_reducible exact aB HL5.out ((aD _ _).alloc (Nat.le_refl _) _) HLT.out|with_reducible exact aB HL5.out (((aD _ _).alloc (Nat.le_refl _) _).drew) HLT.out|with_reducible exact aB HL5.out (((aD _ _).alloc (Nat.le_refl _) _).alloc (by simp) _) HLT.out|with_reducible exact aB HL5.out ((((aD _ _).alloc (Nat.le_refl _) _).alloc (by simp) _).drew) HLT.out|with_reducible exact aB HL5.out ((((aD _ _).drew).alloc (by simp) _).alloc (by simp) _) HLT.out|with_reducible exact aB HL5.out (((aD _ _).drew).alloc (by simp) _) HLT.out) (fun hHeld2=>?_);clear hK K hHeld;have hHeld:=hHeld2
  clear hHeld2;try simp only[Act.put,aI]
  refine wpAnyH_take (i:=5) (v:=?_) rfl (by kernel_rfl) (by kernel_rfl) (by kernel_rfl) (fun _ _ _ h=>h) (Or.inl ⟨by rfl,?_⟩) (by assumption) ?_;rotate_left
  ·(intro w9 hSw;(try dsimp only at hSw);go_simp)<;>with_reducible rfl
  try simp only[Act.put,aI]
  refine wpAnyH_ready (rs:=[10]) (by kernel_rfl) (by simp) ?_;refine AllReadyH.cons rfl (fun K hK=>?_) AllReadyH.nil;go_simp
  (repeat(rename_i hwq;clear hwq))
  refine hK.out _ _ (by first|with_reducible exact HL5.out|with_reducible exact aE HL5.out|with_reducible exact aB HL5.out ((aD _ _).alloc (Nat.le_refl _) _) HLT.out|with_reducible exact aB HL5.out (((aD _ _).alloc (Nat.le_refl _) _).drew) HLT.out|with_reducible exact aB HL5.out (((aD _ _).alloc (Nat.le_refl _) _).alloc (by simp) _) HLT.out|with_reducible exact aB HL5.out ((((aD _ _).alloc (Nat.le_refl _) _).alloc (by simp) _).drew) HLT.out|with_reducible exact aB HL5.out ((((aD _ _).drew).alloc (by simp) _).alloc (by simp) _) HLT.out|with_reducible exact aB HL5.out (((aD _ _).drew).alloc (by simp) _) HLT.out) (fun hHeld2=>?_);clear hK K hHeld;have hHeld:=hHeld2
  clear hHeld2;try simp only[Act.put,aI]
  refine wpAnyH_ready (rs:=[11]) (by kernel_rfl) (by simp) ?_;refine AllReadyH.cons rfl (fun K hK=>?_) AllReadyH.nil;go_simp
  (repeat(rename_i hwq;clear hwq))
  refine hK.out _ _ (by first|with_reducible exact HL5.out|with_reducible exact aE HL5.out|with_reducible exact aB HL5.out ((aD _ _).alloc (Nat.le_refl _) _) HLT.out|with_reducible exact aB HL5.out (((aD _ _).alloc (Nat.le_refl _) _).drew) HLT.out|with_reducible exact aB HL5.out (((aD _ _).alloc (Nat.le_refl _) _).alloc (by simp) _) HLT.out|with_reducible exact aB HL5.out ((((aD _ _).alloc (Nat.le_refl _) _).alloc (by simp) _).drew) HLT.out|with_reducible exact aB HL5.out ((((aD _ _).drew).alloc (by simp) _).alloc (by simp) _) HLT.out|with_reducible exact aB HL5.out (((aD _ _).drew).alloc (by simp) _) HLT.out) (fun hHeld2=>?_);clear hK K hHeld;have hHeld:=hHeld2
  clear hHeld2;try simp only[Act.put,aI]
  refine wpAnyH_take (i:=12) (v:=?_) rfl (by kernel_rfl) (by kernel_rfl) (by kernel_rfl) (fun _ _ _ h=>h) (Or.inl ⟨by rfl,?_⟩) (by assumption) ?_;rotate_left
  ·(intro w9 hSw;(try dsimp only at hSw);go_simp)<;>with_reducible rfl
  try simp only[Act.put,aI]
  refine wpAnyH_take (i:=13) (v:=?_) rfl (by kernel_rfl) (by kernel_rfl) (by kernel_rfl) (fun _ _ _ h=>h) (Or.inl ⟨by rfl,?_⟩) (by assumption) ?_;rotate_left
  ·(intro w9 hSw;(try dsimp only at hSw);go_simp)<;>with_reducible rfl
  try simp only[Act.put,aI]
  refine wpAnyH_done (by kernel_rfl) ?_ _;rotate_left;go_simp
  (repeat(rename_i hwq;clear hwq))
  refine hK.out _ _ (by first|with_reducible exact HL5.out|with_reducible exact aE HL5.out|with_reducible exact aB HL5.out ((aD _ _).alloc (Nat.le_refl _) _) HLT.out|with_reducible exact aB HL5.out (((aD _ _).alloc (Nat.le_refl _) _).drew) HLT.out|with_reducible exact aB HL5.out (((aD _ _).alloc (Nat.le_refl _) _).alloc (by simp) _) HLT.out|with_reducible exact aB HL5.out ((((aD _ _).alloc (Nat.le_refl _) _).alloc (by simp) _).drew) HLT.out|with_reducible exact aB HL5.out ((((aD _ _).drew).alloc (by simp) _).alloc (by simp) _) HLT.out|with_reducible exact aB HL5.out (((aD _ _).drew).alloc (by simp) _) HLT.out) (fun hHeld2=>?_);clear hK K hHeld;have hHeld:=hHeld2
  clear hHeld2;try simp only[Act.put,aI]
  refine wpAnyH_take (i:=5) (v:=?_) rfl (by kernel_rfl) (by kernel_rfl) (by kernel_rfl) (fun _ _ _ h=>h) (Or.inl ⟨by rfl,?_⟩) (by assumption) ?_;rotate_left
  ·(intro w9 hSw;(try dsimp only at hSw);go_simp)<;>with_reducible rfl
  try simp only[Act.put,aI]
  refine wpAnyH_ready (rs:=[11]) (by kernel_rfl) (by simp) ?_;refine AllReadyH.cons rfl (fun K hK=>?_) AllReadyH.nil;go_simp
  (repeat(rename_i hwq;clear hwq))
  refine hK.out _ _ (by first|with_reducible exact HL5.out|with_reducible exact aE HL5.out|with_reducible exact aB HL5.out ((aD _ _).alloc (Nat.le_refl _) _) HLT.out|with_reducible exact aB HL5.out (((aD _ _).alloc (Nat.le_refl _) _).drew) HLT.out|with_reducible exact aB HL5.out (((aD _ _).alloc (Nat.le_refl _) _).alloc (by simp) _) HLT.out|with_reducible exact aB HL5.out ((((aD _ _).alloc (Nat.le_refl _) _).alloc (by simp) _).drew) HLT.out|with_reducible exact aB HL5.out ((((aD _ _).drew).alloc (by simp) _).alloc (by simp) _) HLT.out|with_reducible exact aB HL5.out (((aD _ _).drew).alloc (by simp) _) HLT.out) (fun hHeld2=>?_);clear hK K hHeld;have hHeld:=hHeld2
  clear hHeld2;try simp only[Act.put,aI]
  refine wpAnyH_take (i:=12) (v:=?_) rfl (by kernel_rfl) (by kernel_rfl) (by kernel_rfl) (fun _ _ _ h=>h) (Or.inl ⟨by rfl,?_⟩) (by assumption) ?_;rotate_left
  ·(intro w9 hSw;(try dsimp only at hSw);go_simp)<;>with_reducible rfl
  try simp only[Act.put,aI]
  refine wpAnyH_take (i:=13) (v:=?_) rfl (by kernel_rfl) (by kernel_rfl) (by kernel_rfl) (fun _ _ _ h=>h) (Or.inl ⟨by rfl,?_⟩) (by assumption) ?_;rotate_left
  ·(intro w9 hSw;(try dsimp only at hSw);go_simp)<;>with_reducible rfl
  try simp only[Act.put,aI]
  refine wpAnyH_done (by kernel_rfl) ?_ _;rotate_left;rotate_left;go_simp
  (repeat(rename_i hwq;clear hwq))
  refine hK.out _ _ (by first|with_reducible exact HL5.out|with_reducible exact aE HL5.out|with_reducible exact aB HL5.out ((aD _ _).alloc (Nat.le_refl _) _) HLT.out|with_reducible exact aB HL5.out (((aD _ _).alloc (Nat.le_refl _) _).drew) HLT.out|with_reducible exact aB HL5.out (((aD _ _).alloc (Nat.le_refl _) _).alloc (by simp) _) HLT.out|with_reducible exact aB HL5.out ((((aD _ _).alloc (Nat.le_refl _) _).alloc (by simp) _).drew) HLT.out|with_reducible exact aB HL5.out ((((aD _ _).drew).alloc (by simp) _).alloc (by simp) _) HLT.out|with_reducible exact aB HL5.out (((aD _ _).drew).alloc (by simp) _) HLT.out) (fun hHeld2=>?_);clear hK K hHeld;have hHeld:=hHeld2
  clear hHeld2;try simp only[Act.put,aI]
  refine wpAnyH_take (i:=5) (v:=?_) rfl (by kernel_rfl) (by kernel_rfl) (by kernel_rfl) (fun _ _ _ h=>h) (Or.inl ⟨by rfl,?_⟩) (by assumption) ?_;rotate_left
  ·(intro w9 hSw;(try dsimp only at hSw);go_simp)<;>with_reducible rfl
  try simp only[Act.put,aI]
  refine wpAnyH_ready (rs:=[11]) (by kernel_rfl) (by simp) ?_;refine AllReadyH.cons rfl (fun K hK=>?_) AllReadyH.nil;go_simp
  (repeat(rename_i hwq;clear hwq))
  refine hK.out _ _ (by first|with_reducible exact HL5.out|with_reducible exact aE HL5.out|with_reducible exact aB HL5.out ((aD _ _).alloc (Nat.le_refl _) _) HLT.out|with_reducible exact aB HL5.out (((aD _ _).alloc (Nat.le_refl _) _).drew) HLT.out|with_reducible exact aB HL5.out (((aD _ _).alloc (Nat.le_refl _) _).alloc (by simp) _) HLT.out|with_reducible exact aB HL5.out ((((aD _ _).alloc (Nat.le_refl _) _).alloc (by simp) _).drew) HLT.out|with_reducible exact aB HL5.out ((((aD _ _).drew).alloc (by simp) _).alloc (by simp) _) HLT.out|with_reducible exact aB HL5.out (((aD _ _).drew).alloc (by simp) _) HLT.out) (fun hHeld2=>?_);clear hK K hHeld;have hHeld:=hHeld2
  clear hHeld2;try simp only[Act.put,aI]
  refine wpAnyH_take (i:=12) (v:=?_) rfl (by kernel_rfl) (by kernel_rfl) (by kernel_rfl) (fun _ _ _ h=>h) (Or.inl ⟨by rfl,?_⟩) (by assumption) ?_;rotate_left
  ·(intro w9 hSw;(try dsimp only at hSw);go_simp)<;>with_reducible rfl
  try simp only[Act.put,aI]
  refine wpAnyH_take (i:=13) (v:=?_) rfl (by kernel_rfl) (by kernel_rfl) (by kernel_rfl) (fun _ _ _ h=>h) (Or.inl ⟨by rfl,?_⟩) (by assumption) ?_;rotate_left
  ·(intro w9 hSw;(try dsimp only at hSw);go_simp)<;>with_reducible rfl
  try simp only[Act.put,aI]
  refine wpAnyH_done (by kernel_rfl) ?_ _;rotate_left
  all_goals(
   have HF:Hid (R=fI 4 to a b n f):=by rw[←HR.out];exact aA (hU HW.out (by rw[HRAW.out];simp))
   rw[HRAW.out]at HF;clear HR HW HRAW HNA;obtain⟨l0,l1,l2,l3,l4⟩:=HL5.out;clear hcv;obtain⟨x00,x01,x02,x03,x04⟩:L5 (((w1.alloc (.cells #[.int .u8 (65+to)] 5)).alloc (.cells #[.string ⟨#[]⟩,.string ⟨#[115,101,116]⟩,.string ⟨#[97,100,100]⟩,.string ⟨#[109,117,108]⟩,.string ⟨#[97,112,97,114,116]⟩,.string ⟨#[100,111]⟩,.string ⟨#[114,111,117,110,100]⟩,.string ⟨#[98,97,99,107]⟩,.string ⟨#[115,104,111,119]⟩] 9)).alloc (.cells #[.int .u8 (65+a)] 5)) w.heap.size 4 to a b pa n cap:=aB HL5.out (aR (aR (aR (aD _ _)))) HLT.out;have hca0:=cK a0 a5 ((w1.alloc (.cells #[.int .u8 (65+to)] 5)).alloc (.cells #[.string ⟨#[]⟩,.string ⟨#[115,101,116]⟩,.string ⟨#[97,100,100]⟩,.string ⟨#[109,117,108]⟩,.string ⟨#[97,112,97,114,116]⟩,.string ⟨#[100,111]⟩,.string ⟨#[114,111,117,110,100]⟩,.string ⟨#[98,97,99,107]⟩,.string ⟨#[115,104,111,119]⟩] 9)) (w1.heap.size+1+1) (by simp) 5
   have hcb0:=cK b0 b5 (((w1.alloc (.cells #[.int .u8 (65+to)] 5)).alloc (.cells #[.string ⟨#[]⟩,.string ⟨#[115,101,116]⟩,.string ⟨#[97,100,100]⟩,.string ⟨#[109,117,108]⟩,.string ⟨#[97,112,97,114,116]⟩,.string ⟨#[100,111]⟩,.string ⟨#[114,111,117,110,100]⟩,.string ⟨#[98,97,99,107]⟩,.string ⟨#[115,104,111,119]⟩] 9)).alloc (.cells #[.int .u8 (65+a)] 5)) (w1.heap.size+1+1+1) (by simp) 5;obtain⟨y00,y01,y02,y03,y04⟩:L5 ((((w1.alloc (.cells #[.int .u8 (65+to)] 5)).alloc (.cells #[.string ⟨#[]⟩,.string ⟨#[115,101,116]⟩,.string ⟨#[97,100,100]⟩,.string ⟨#[109,117,108]⟩,.string ⟨#[97,112,97,114,116]⟩,.string ⟨#[100,111]⟩,.string ⟨#[114,111,117,110,100]⟩,.string ⟨#[98,97,99,107]⟩,.string ⟨#[115,104,111,119]⟩] 9)).alloc (.cells #[.int .u8 (65+a)] 5)).alloc (.cells #[.int .u8 (65+b)] 5)) w.heap.size 4 to a b pa n cap:=aB HL5.out (aR (aR (aR (aR (aD _ _))))) HLT.out;obtain⟨x10,x11,x12,x13,x14⟩:L5 (((w1.alloc (.cells #[.string ⟨#[]⟩,.string ⟨#[115,101,116]⟩,.string ⟨#[97,100,100]⟩,.string ⟨#[109,117,108]⟩,.string ⟨#[97,112,97,114,116]⟩,.string ⟨#[100,111]⟩,.string ⟨#[114,111,117,110,100]⟩,.string ⟨#[98,97,99,107]⟩,.string ⟨#[115,104,111,119]⟩] 9)).alloc (.cells #[.int .u8 (65+to)] 5)).alloc (.cells #[.int .u8 (65+a)] 5)) w.heap.size 4 to a b pa n cap:=aB HL5.out (aR (aR (aR (aD _ _)))) HLT.out;have hca1:=cK a0 a5 ((w1.alloc (.cells #[.string ⟨#[]⟩,.string ⟨#[115,101,116]⟩,.string ⟨#[97,100,100]⟩,.string ⟨#[109,117,108]⟩,.string ⟨#[97,112,97,114,116]⟩,.string ⟨#[100,111]⟩,.string ⟨#[114,111,117,110,100]⟩,.string ⟨#[98,97,99,107]⟩,.string ⟨#[115,104,111,119]⟩] 9)).alloc (.cells #[.int .u8 (65+to)] 5)) (w1.heap.size+1+1) (by simp) 5
   have hcb1:=cK b0 b5 (((w1.alloc (.cells #[.string ⟨#[]⟩,.string ⟨#[115,101,116]⟩,.string ⟨#[97,100,100]⟩,.string ⟨#[109,117,108]⟩,.string ⟨#[97,112,97,114,116]⟩,.string ⟨#[100,111]⟩,.string ⟨#[114,111,117,110,100]⟩,.string ⟨#[98,97,99,107]⟩,.string ⟨#[115,104,111,119]⟩] 9)).alloc (.cells #[.int .u8 (65+to)] 5)).alloc (.cells #[.int .u8 (65+a)] 5)) (w1.heap.size+1+1+1) (by simp) 5;obtain⟨y10,y11,y12,y13,y14⟩:L5 ((((w1.alloc (.cells #[.string ⟨#[]⟩,.string ⟨#[115,101,116]⟩,.string ⟨#[97,100,100]⟩,.string ⟨#[109,117,108]⟩,.string ⟨#[97,112,97,114,116]⟩,.string ⟨#[100,111]⟩,.string ⟨#[114,111,117,110,100]⟩,.string ⟨#[98,97,99,107]⟩,.string ⟨#[115,104,111,119]⟩] 9)).alloc (.cells #[.int .u8 (65+to)] 5)).alloc (.cells #[.int .u8 (65+a)] 5)).alloc (.cells #[.int .u8 (65+b)] 5)) w.heap.size 4 to a b pa n cap:=aB HL5.out (aR (aR (aR (aR (aD _ _))))) HLT.out;go_wp2
   (try((first|erw[hca0]|erw[hca1]);go_wp2))
   (try((first|erw[hcb0]|erw[hcb1]);go_wp2))
   go_ret;refine⟨congrArg (fun x=>Ending.returned (Value.string x)) ?_,?_⟩
   ·rw[HF.out];apply ByteArray.ext;simp only[ByteArray.data_append,List.append_toArray,List.cons_append,List.nil_append]
   repeat(first|with_reducible exact HB1.out|with_reducible refine kY ?_|with_reducible refine aR ?_))
theorem KH (to a b:Int) (pa:Option Addr) (n cap:Nat) (f:Nat→T) (w:World) (h:Rd w pa n cap f):Calls Tryz.prog 34 #[.agg #[.int .i64 5,.int .i64 to,.int .i64 a,.int .i64 b,.slice pa n cap]] w fun r w'=>r= .returned (.string ⟨(dW 5 to a b n f).toArray⟩)∧Below w.heap.size w w':=by
 have hB0:=aG w (.cells #[.int .i64 5,.int .i64 to,.int .i64 a,.int .i64 b,.slice pa n cap] 24);have HL0:=aA (iQ w 5 to a b pa n cap)
 have HRD:=aA (h.below hB0);have HB0:=aA hB0
 have hnI:(n:Int)≤9223372036854775807:=by have:=h.2.1;omega
 clear hB0 h;obtain⟨R,hR⟩:∃R,dW 5 to a b n f=R:=⟨_,rfl⟩
 rw[hR];have HR:=aA hR
 clear hR;by_cases h1:to<0∨(0≤to∧5<to)
 ·have HZ:Hid (R=[]):=by rw[←HR.out];exact aA (aU (aW (fun q=>by have:=q.2.1;omega)))
  go_enter Tryz.func34,Tryz.ntmps34;go_wp2_with (go_at_call 73;first|(refine(aP _ _ _ _ (by omega) (by omega)).mono ?_;rintro e w' ⟨rfl,rfl⟩)|(refine(aL _ _ _ _ (by omega)).mono ?_;rintro e w' ⟨rfl,rfl⟩));go_ret;exact⟨by rw[HZ.out];rfl,HB0.out⟩
 by_cases h2:a<0∨(0≤a∧5<a)
 ·have HZ:Hid (R=[]):=by rw[←HR.out];exact aA (aU (aW (fun q=>by have:=q.2.2.1;omega)))
  go_enter Tryz.func34,Tryz.ntmps34;go_wp2_with (go_at_call 73;first|(refine(aP _ _ _ _ (by omega) (by omega)).mono ?_;rintro e w' ⟨rfl,rfl⟩)|(refine(aL _ _ _ _ (by omega)).mono ?_;rintro e w' ⟨rfl,rfl⟩));go_ret;exact⟨by rw[HZ.out];rfl,HB0.out⟩
 by_cases h3:b<0∨(0≤b∧5<b)
 ·have HZ:Hid (R=[]):=by rw[←HR.out];exact aA (aU (aW (fun q=>by have:=q.2.2.2.1;omega)))
  go_enter Tryz.func34,Tryz.ntmps34;go_wp2_with (go_at_call 73;first|(refine(aP _ _ _ _ (by omega) (by omega)).mono ?_;rintro e w' ⟨rfl,rfl⟩)|(refine(aL _ _ _ _ (by omega)).mono ?_;rintro e w' ⟨rfl,rfl⟩));go_ret;exact⟨by rw[HZ.out];rfl,HB0.out⟩
 obtain⟨ok,hok⟩:∃x,aN n f=x:=⟨_,rfl⟩
 have HC:=aA (bD _ pa n cap f HRD.out);rw[hok]at HC;have t0:0≤to:=by omega
 have t5:to≤5:=by omega
 have a0:0≤a:=by omega
 have a5:a≤5:=by omega
 have b0:0≤b:=by omega
 have b5:b≤5:=by omega
 clear h1 h2 h3;have HOK:=aA hok
 clear hok;cases ok
 ·have HZ:Hid (R=[]):=by rw[←HR.out];exact aA (aU (aW (fun q=>by have:=q.2.2.2.2.1;rw[HOK.out]at this;cases this)))
  go_enter Tryz.func34,Tryz.ntmps34;go_wp2_with (go_at_call 73;first|(refine(aP _ _ _ _ (by omega) (by omega)).mono ?_;rintro e w' ⟨rfl,rfl⟩)|(refine(aL _ _ _ _ (by omega)).mono ?_;rintro e w' ⟨rfl,rfl⟩));refine HC.out.mono ?_;rintro r w1 ⟨rfl,hb1⟩;have HB1:=aA (aC HB0.out hb1)
  clear hb1;go_wp2;go_ret;exact⟨by rw[HZ.out];rfl,HB1.out⟩
 ·skip
  by_cases hn:¬n=0
  ·have HZ:Hid (R=[]):=by rw[←HR.out];exact aA (aU (aW (fun q=>hn (by have:=q.2.2.2.2.2.2.2;revert this;simp))))
   have hnp:(0:Int)<(n:Int):=by omega
   go_enter Tryz.func34,Tryz.ntmps34;go_wp2_with (go_at_call 73;first|(refine(aP _ _ _ _ (by omega) (by omega)).mono ?_;rintro e w' ⟨rfl,rfl⟩)|(refine(aL _ _ _ _ (by omega)).mono ?_;rintro e w' ⟨rfl,rfl⟩));refine HC.out.mono ?_;rintro r w1 ⟨rfl,hb1⟩;have HB1:=aA (aC HB0.out hb1)
   have HRD1:=aA (HRD.out.below hb1);have HL1:=aA (aB HL0.out hb1 (by simp))
   have hlt1:w.heap.size<w1.heap.size:=dR (by simp) hb1.size;clear hb1 HC HL0 HB0 HRD;obtain⟨l0,l1,l2,l3,l4⟩:=HL1.out;go_wp2_with fail;refine(dI 5 (by omega) _).mono ?_;rintro r w' ⟨rfl,hw'⟩;obtain rfl:=hw'.symm;clear hw';rw[show((gA 5:Nat):Int)=3 from rfl];go_wp2;go_ret;exact⟨by rw[HZ.out];rfl,HB1.out⟩
  have hn0:Hid (n=0):=aA (by omega);clear hn;have hnl:¬(0:Int)<(n:Int):=by have:=hn0.out;omega
  have HW:Hid (qS 5 to a b n f=true):=aA (decide_eq_true ⟨⟨by omega,by omega⟩,⟨t0,t5⟩,⟨a0,a5⟩,⟨b0,b5⟩,HOK.out,.inl (by decide),.inl (by decide),.inr hn0.out⟩);have HRAW:=aA (KX to a b n f)
  have hcv:=fun(u:World) (g:Nat) hc=>lB t0 t5 u g hc;have hwto:IntKind.i64.wrap (65+to)=65+to:=by rw[IntKind.wrap_i64];omega
  have hvto:IntKind.u8.wrap (65+to)=65+to:=by rw[IntKind.wrap_u8];omega
  have hwa:IntKind.i64.wrap (65+a)=65+a:=by rw[IntKind.wrap_i64];omega
  have hva:IntKind.u8.wrap (65+a)=65+a:=by rw[IntKind.wrap_u8];omega
  have hwb:IntKind.i64.wrap (65+b)=65+b:=by rw[IntKind.wrap_i64];omega
  have hvb:IntKind.u8.wrap (65+b)=65+b:=by rw[IntKind.wrap_u8];omega
  go_enter Tryz.func34,Tryz.ntmps34;go_wp2_with (go_at_call 73;first|(refine(aP _ _ _ _ (by omega) (by omega)).mono ?_;rintro e w' ⟨rfl,rfl⟩)|(refine(aL _ _ _ _ (by omega)).mono ?_;rintro e w' ⟨rfl,rfl⟩));refine HC.out.mono ?_;rintro r w1 ⟨rfl,hb1⟩;have HB1:=aA (aC HB0.out hb1)
  have HRD1:=aA (HRD.out.below hb1);have HL1:=aA (aB HL0.out hb1 (by simp))
  have hlt1:w.heap.size<w1.heap.size:=dR (by simp) hb1.size;clear hb1 HC HL0 HB0 HRD;obtain⟨l0,l1,l2,l3,l4⟩:=HL1.out;go_wp2_with fail;refine(dI 5 (by omega) _).mono ?_;rintro r w' ⟨rfl,hw'⟩;obtain rfl:=hw'.symm;clear hw';rw[show((gA 5:Nat):Int)=3 from rfl];have HS1:=HL1
  have HNA:=aA (fun u=>jR u);go_wp2_with fail;have hl5:L5 w1 w.heap.size 5 to a b pa n cap:=⟨l0,l1,l2,l3,l4⟩
  have HL5:=aA hl5;have HLT:=aA hlt1
  clear l0 l1 l2 l3 l4 hl5;rename_i K0 hK0;refine wp_region_held_drew (S:=fun u=>L5 u w.heap.size 5 to a b pa n cap) (by kernel_rfl) (by first|with_reducible exact HL5.out|with_reducible exact aE HL5.out|with_reducible exact aB HL5.out ((aD _ _).alloc (Nat.le_refl _) _) HLT.out|with_reducible exact aB HL5.out (((aD _ _).alloc (Nat.le_refl _) _).drew) HLT.out|with_reducible exact aB HL5.out (((aD _ _).alloc (Nat.le_refl _) _).alloc (by simp) _) HLT.out|with_reducible exact aB HL5.out ((((aD _ _).alloc (Nat.le_refl _) _).alloc (by simp) _).drew) HLT.out|with_reducible exact aB HL5.out ((((aD _ _).drew).alloc (by simp) _).alloc (by simp) _) HLT.out|with_reducible exact aB HL5.out (((aD _ _).drew).alloc (by simp) _) HLT.out) (fun hHeld=>?_);refine wpAnyH_take (i:=1) (v:=?_) rfl (by kernel_rfl) (by kernel_rfl) (by kernel_rfl) (fun _ _ _ h=>h) (Or.inl ⟨by rfl,?_⟩) (by assumption) ?_;rotate_left
  ·(intro w9 hSw;(try dsimp only at hSw);go_simp)<;>with_reducible rfl
  try simp only[Act.put,aI]
  refine wpAnyH_take (i:=2) (v:=?_) rfl (by kernel_rfl) (by kernel_rfl) (by kernel_rfl) (fun _ _ _ h=>h) (Or.inl ⟨by rfl,?_⟩) (by assumption) ?_;rotate_left
  ·(intro w9 hSw;(try dsimp only at hSw);go_simp)<;>with_reducible rfl
  try simp only[Act.put,aI]
  refine wpAnyH_take (i:=6) (v:=?_) rfl (by kernel_rfl) (by kernel_rfl) (by kernel_rfl) (fun _ _ _ h=>h) (Or.inl ⟨by rfl,?_⟩) (by assumption) ?_;rotate_left
  ·(intro w9 hSw;(try dsimp only at hSw);go_simp)<;>with_reducible rfl
  try simp only[Act.put,aI]
  refine wpAnyH_take (i:=7) (v:=?_) rfl (by kernel_rfl) (by kernel_rfl) (by kernel_rfl) (fun _ _ _ h=>h) (Or.inl ⟨by rfl,?_⟩) (by assumption) ?_;rotate_left
  ·(intro w9 hSw;(try dsimp only at hSw);go_simp)<;>with_reducible rfl
  try simp only[Act.put,aI]
  refine wpAnyH_take (i:=8) (v:=?_) rfl (by kernel_rfl) (by kernel_rfl) (by kernel_rfl) (fun _ _ _ h=>h) (Or.inl ⟨by rfl,?_⟩) (by assumption) ?_;rotate_left
  ·(intro w9 hSw;(try dsimp only at hSw);go_simp)<;>with_reducible rfl
  try simp only[Act.put,aI]
  refine wpAnyH_take (i:=9) (v:=?_) rfl (by kernel_rfl) (by kernel_rfl) (by kernel_rfl) (fun _ _ _ h=>h) (Or.inl ⟨by rfl,?_⟩) (by assumption) ?_;rotate_left
  ·(intro w9 hSw;(try dsimp only at hSw);go_simp)<;>with_reducible rfl
  try simp only[Act.put,aI]
  refine wpAnyH_ready (rs:=[0,10]) (by kernel_rfl) (by simp) ?_;refine AllReadyH.cons rfl (fun K hK=>?_) ?_;rotate_left;refine AllReadyH.cons rfl (fun K hK=>?_) AllReadyH.nil;go_simp
  (repeat(rename_i hwq;clear hwq))
  refine hK.out _ _ (by first|with_reducible exact HL5.out|with_reducible exact aE HL5.out|with_reducible exact aB HL5.out ((aD _ _).alloc (Nat.le_refl _) _) HLT.out|with_reducible exact aB HL5.out (((aD _ _).alloc (Nat.le_refl _) _).drew) HLT.out|with_reducible exact aB HL5.out (((aD _ _).alloc (Nat.le_refl _) _).alloc (by simp) _) HLT.out|with_reducible exact aB HL5.out ((((aD _ _).alloc (Nat.le_refl _) _).alloc (by simp) _).drew) HLT.out|with_reducible exact aB HL5.out ((((aD _ _).drew).alloc (by simp) _).alloc (by simp) _) HLT.out|with_reducible exact aB HL5.out (((aD _ _).drew).alloc (by simp) _) HLT.out) (fun hHeld2=>?_);clear hK K hHeld;have hHeld:=hHeld2
  clear hHeld2;try simp only[Act.put,aI]
  refine wpAnyH_ready (rs:=[0,11]) (by kernel_rfl) (by simp) ?_;refine AllReadyH.cons rfl (fun K hK=>?_) ?_;rotate_left;refine AllReadyH.cons rfl (fun K hK=>?_) AllReadyH.nil;go_simp
  (repeat(rename_i hwq;clear hwq))
  refine hK.out _ _ (by first|with_reducible exact HL5.out|with_reducible exact aE HL5.out|with_reducible exact aB HL5.out ((aD _ _).alloc (Nat.le_refl _) _) HLT.out|with_reducible exact aB HL5.out (((aD _ _).alloc (Nat.le_refl _) _).drew) HLT.out|with_reducible exact aB HL5.out (((aD _ _).alloc (Nat.le_refl _) _).alloc (by simp) _) HLT.out|with_reducible exact aB HL5.out ((((aD _ _).alloc (Nat.le_refl _) _).alloc (by simp) _).drew) HLT.out|with_reducible exact aB HL5.out ((((aD _ _).drew).alloc (by simp) _).alloc (by simp) _) HLT.out|with_reducible exact aB HL5.out (((aD _ _).drew).alloc (by simp) _) HLT.out) (fun hHeld2=>?_);clear hK K hHeld;have hHeld:=hHeld2
  clear hHeld2;try simp only[Act.put,aI]
  refine wpAnyH_ready (rs:=[0]) (by kernel_rfl) (by simp) ?_;refine AllReadyH.cons rfl (fun K hK=>?_) AllReadyH.nil;go_simp
  (repeat(rename_i hwq;clear hwq))
  go_wp2_with (go_at_call 46;refine(HNA.out _).mono ?_;rintro r w' ⟨rfl,hw'⟩;rw[hw'];clear hw');refine hK.out _ _ (by first|with_reducible exact HL5.out|with_reducible exact aE HL5.out|with_reducible exact aB HL5.out ((aD _ _).alloc (Nat.le_refl _) _) HLT.out|with_reducible exact aB HL5.out (((aD _ _).alloc (Nat.le_refl _) _).drew) HLT.out|with_reducible exact aB HL5.out (((aD _ _).alloc (Nat.le_refl _) _).alloc (by simp) _) HLT.out|with_reducible exact aB HL5.out ((((aD _ _).alloc (Nat.le_refl _) _).alloc (by simp) _).drew) HLT.out|with_reducible exact aB HL5.out ((((aD _ _).drew).alloc (by simp) _).alloc (by simp) _) HLT.out|with_reducible exact aB HL5.out (((aD _ _).drew).alloc (by simp) _) HLT.out) (fun hHeld2=>?_);clear hK K hHeld;have hHeld:=hHeld2
  clear hHeld2;try simp only[Act.put,aI]
  refine wpAnyH_take (i:=3) (v:=?_) rfl (by kernel_rfl) (by kernel_rfl) (by kernel_rfl) (fun _ _ _ h=>h) (Or.inl ⟨by rfl,?_⟩) (by assumption) ?_;rotate_left
  ·(intro w9 hSw;(try dsimp only at hSw);go_simp)<;>with_reducible rfl
  try simp only[Act.put,aI]
  refine wpAnyH_ready (rs:=[4]) (by kernel_rfl) (by simp) ?_;refine AllReadyH.cons rfl (fun K hK=>?_) AllReadyH.nil;go_simp
  (repeat(rename_i hwq;clear hwq))
  refine hK.out _ _ (by first|with_reducible exact HL5.out|with_reducible exact aE HL5.out|with_reducible exact aB HL5.out ((aD _ _).alloc (Nat.le_refl _) _) HLT.out|with_reducible exact aB HL5.out (((aD _ _).alloc (Nat.le_refl _) _).drew) HLT.out|with_reducible exact aB HL5.out (((aD _ _).alloc (Nat.le_refl _) _).alloc (by simp) _) HLT.out|with_reducible exact aB HL5.out ((((aD _ _).alloc (Nat.le_refl _) _).alloc (by simp) _).drew) HLT.out|with_reducible exact aB HL5.out ((((aD _ _).drew).alloc (by simp) _).alloc (by simp) _) HLT.out|with_reducible exact aB HL5.out (((aD _ _).drew).alloc (by simp) _) HLT.out) (fun hHeld2=>?_);clear hK K hHeld;have hHeld:=hHeld2
  clear hHeld2;try simp only[Act.put,aI]
  refine wpAnyH_take (i:=5) (v:=?_) rfl (by kernel_rfl) (by kernel_rfl) (by kernel_rfl) (fun _ _ _ h=>h) (Or.inl ⟨by rfl,?_⟩) (by assumption) ?_;rotate_left
  ·(intro w9 hSw;(try dsimp only at hSw);go_simp)<;>with_reducible rfl
  try simp only[Act.put,aI]
  refine wpAnyH_take (i:=12) (v:=?_) rfl (by kernel_rfl) (by kernel_rfl) (by kernel_rfl) (fun _ _ _ h=>h) (Or.inl ⟨by rfl,?_⟩) (by assumption) ?_;rotate_left
  ·(intro w9 hSw;(try dsimp only at hSw);go_simp)<;>with_reducible rfl
  try simp only[Act.put,aI]
  refine wpAnyH_take (i:=13) (v:=?_) rfl (by kernel_rfl) (by kernel_rfl) (by kernel_rfl) (fun _ _ _ h=>h) (Or.inl ⟨by rfl,?_⟩) (by assumption) ?_;rotate_left
  ·(intro w9 hSw;(try dsimp only at hSw);go_simp)<;>with_reducible rfl
  try simp only[Act.put,aI]
  refine wpAnyH_done (by kernel_rfl) ?_ _;rotate_left;go_simp
  (repeat(rename_i hwq;clear hwq))
  go_wp2_with (go_at_call 46;refine(HNA.out _).mono ?_;rintro r w' ⟨rfl,hw'⟩;rw[hw'];clear hw');refine hK.out _ _ (by first|with_reducible exact HL5.out|with_reducible exact aE HL5.out|with_reducible exact aB HL5.out ((aD _ _).alloc (Nat.le_refl _) _) HLT.out|with_reducible exact aB HL5.out (((aD _ _).alloc (Nat.le_refl _) _).drew) HLT.out|with_reducible exact aB HL5.out (((aD _ _).alloc (Nat.le_refl _) _).alloc (by simp) _) HLT.out|with_reducible exact aB HL5.out ((((aD _ _).alloc (Nat.le_refl _) _).alloc (by simp) _).drew) HLT.out|with_reducible exact aB HL5.out ((((aD _ _).drew).alloc (by simp) _).alloc (by simp) _) HLT.out|with_reducible exact aB HL5.out (((aD _ _).drew).alloc (by simp) _) HLT.out) (fun hHeld2=>?_);clear hK K hHeld;have hHeld:=hHeld2
  clear hHeld2;try simp only[Act.put,aI]
  refine wpAnyH_take (i:=3) (v:=?_) rfl (by kernel_rfl) (by kernel_rfl) (by kernel_rfl) (fun _ _ _ h=>h) (Or.inl ⟨by rfl,?_⟩) (by assumption) ?_;rotate_left
  ·(intro w9 hSw;(try dsimp only at hSw);go_simp)<;>with_reducible rfl
  try simp only[Act.put,aI]
  refine wpAnyH_ready (rs:=[4,10]) (by kernel_rfl) (by simp) ?_;refine AllReadyH.cons rfl (fun K hK=>?_) ?_;rotate_left;refine AllReadyH.cons rfl (fun K hK=>?_) AllReadyH.nil;go_simp
  (repeat(rename_i hwq;clear hwq))
  refine hK.out _ _ (by first|with_reducible exact HL5.out|with_reducible exact aE HL5.out|with_reducible exact aB HL5.out ((aD _ _).alloc (Nat.le_refl _) _) HLT.out|with_reducible exact aB HL5.out (((aD _ _).alloc (Nat.le_refl _) _).drew) HLT.out|with_reducible exact aB HL5.out (((aD _ _).alloc (Nat.le_refl _) _).alloc (by simp) _) HLT.out|with_reducible exact aB HL5.out ((((aD _ _).alloc (Nat.le_refl _) _).alloc (by simp) _).drew) HLT.out|with_reducible exact aB HL5.out ((((aD _ _).drew).alloc (by simp) _).alloc (by simp) _) HLT.out|with_reducible exact aB HL5.out (((aD _ _).drew).alloc (by simp) _) HLT.out) (fun hHeld2=>?_);clear hK K hHeld;have hHeld:=hHeld2
  clear hHeld2;try simp only[Act.put,aI]
  refine wpAnyH_ready (rs:=[4,11]) (by kernel_rfl) (by simp) ?_;refine AllReadyH.cons rfl (fun K hK=>?_) ?_;rotate_left;refine AllReadyH.cons rfl (fun K hK=>?_) AllReadyH.nil;go_simp
  (repeat(rename_i hwq;clear hwq))
  refine hK.out _ _ (by first|with_reducible exact HL5.out|with_reducible exact aE HL5.out|with_reducible exact aB HL5.out ((aD _ _).alloc (Nat.le_refl _) _) HLT.out|with_reducible exact aB HL5.out (((aD _ _).alloc (Nat.le_refl _) _).drew) HLT.out|with_reducible exact aB HL5.out (((aD _ _).alloc (Nat.le_refl _) _).alloc (by simp) _) HLT.out|with_reducible exact aB HL5.out ((((aD _ _).alloc (Nat.le_refl _) _).alloc (by simp) _).drew) HLT.out|with_reducible exact aB HL5.out ((((aD _ _).drew).alloc (by simp) _).alloc (by simp) _) HLT.out|with_reducible exact aB HL5.out (((aD _ _).drew).alloc (by simp) _) HLT.out) (fun hHeld2=>?_);clear hK K hHeld;have hHeld:=hHeld2
  clear hHeld2;try simp only[Act.put,aI]
  refine wpAnyH_ready (rs:=[4]) (by kernel_rfl) (by simp) ?_;refine AllReadyH.cons rfl (fun K hK=>?_) AllReadyH.nil;go_simp
  (repeat(rename_i hwq;clear hwq))
  refine hK.out _ _ (by first|with_reducible exact HL5.out|with_reducible exact aE HL5.out|with_reducible exact aB HL5.out ((aD _ _).alloc (Nat.le_refl _) _) HLT.out|with_reducible exact aB HL5.out (((aD _ _).alloc (Nat.le_refl _) _).drew) HLT.out|with_reducible exact aB HL5.out (((aD _ _).alloc (Nat.le_refl _) _).alloc (by simp) _) HLT.out|with_reducible exact aB HL5.out ((((aD _ _).alloc (Nat.le_refl _) _).alloc (by simp) _).drew) HLT.out|with_reducible exact aB HL5.out ((((aD _ _).drew).alloc (by simp) _).alloc (by simp) _) HLT.out|with_reducible exact aB HL5.out (((aD _ _).drew).alloc (by simp) _) HLT.out) (fun hHeld2=>?_);clear hK K hHeld;have hHeld:=hHeld2
  clear hHeld2;try simp only[Act.put,aI]
  refine wpAnyH_take (i:=5) (v:=?_) rfl (by kernel_rfl) (by kernel_rfl) (by kernel_rfl) (fun _ _ _ h=>h) (Or.inl ⟨by rfl,?_⟩) (by assumption) ?_;rotate_left
  ·(intro w9 hSw;(try dsimp only at hSw);go_simp)<;>with_reducible rfl
  try simp only[Act.put,aI]
  refine wpAnyH_take (i:=12) (v:=?_) rfl (by kernel_rfl) (by kernel_rfl) (by kernel_rfl) (fun _ _ _ h=>h) (Or.inl ⟨by rfl,?_⟩) (by assumption) ?_;rotate_left
  ·(intro w9 hSw;(try dsimp only at hSw);go_simp)<;>with_reducible rfl
  try simp only[Act.put,aI]
  refine wpAnyH_take (i:=13) (v:=?_) rfl (by kernel_rfl) (by kernel_rfl) (by kernel_rfl) (fun _ _ _ h=>h) (Or.inl ⟨by rfl,?_⟩) (by assumption) ?_;rotate_left
  ·(intro w9 hSw;(try dsimp only at hSw);go_simp)<;>with_reducible rfl
  try simp only[Act.put,aI]
  refine wpAnyH_done (by kernel_rfl) ?_ _;rotate_left;go_simp
  (repeat(rename_i hwq;clear hwq))
  go_wp2_with (go_at_call 46;refine(HNA.out _).mono ?_;rintro r w' ⟨rfl,hw'⟩;rw[hw'];clear hw');refine hK.out _ _ (by first|with_reducible exact HL5.out|with_reducible exact aE HL5.out|with_reducible exact aB HL5.out ((aD _ _).alloc (Nat.le_refl _) _) HLT.out|with_reducible exact aB HL5.out (((aD _ _).alloc (Nat.le_refl _) _).drew) HLT.out|with_reducible exact aB HL5.out (((aD _ _).alloc (Nat.le_refl _) _).alloc (by simp) _) HLT.out|with_reducible exact aB HL5.out ((((aD _ _).alloc (Nat.le_refl _) _).alloc (by simp) _).drew) HLT.out|with_reducible exact aB HL5.out ((((aD _ _).drew).alloc (by simp) _).alloc (by simp) _) HLT.out|with_reducible exact aB HL5.out (((aD _ _).drew).alloc (by simp) _) HLT.out) (fun hHeld2=>?_);clear hK K hHeld;have hHeld:=hHeld2
  clear hHeld2;try simp only[Act.put,aI]
  refine wpAnyH_take (i:=3) (v:=?_) rfl (by kernel_rfl) (by kernel_rfl) (by kernel_rfl) (fun _ _ _ h=>h) (Or.inl ⟨by rfl,?_⟩) (by assumption) ?_;rotate_left
  ·(intro w9 hSw;(try dsimp only at hSw);go_simp)<;>with_reducible rfl
  try simp only[Act.put,aI]
  refine wpAnyH_ready (rs:=[4,11]) (by kernel_rfl) (by simp) ?_;refine AllReadyH.cons rfl (fun K hK=>?_) ?_;rotate_left;refine AllReadyH.cons rfl (fun K hK=>?_) AllReadyH.nil;go_simp
  (repeat(rename_i hwq;clear hwq))
  refine hK.out _ _ (by first|with_reducible exact HL5.out|with_reducible exact aE HL5.out|with_reducible exact aB HL5.out ((aD _ _).alloc (Nat.le_refl _) _) HLT.out|with_reducible exact aB HL5.out (((aD _ _).alloc (Nat.le_refl _) _).drew) HLT.out|with_reducible exact aB HL5.out (((aD _ _).alloc (Nat.le_refl _) _).alloc (by simp) _) HLT.out|with_reducible exact aB HL5.out ((((aD _ _).alloc (Nat.le_refl _) _).alloc (by simp) _).drew) HLT.out|with_reducible exact aB HL5.out ((((aD _ _).drew).alloc (by simp) _).alloc (by simp) _) HLT.out|with_reducible exact aB HL5.out (((aD _ _).drew).alloc (by simp) _) HLT.out) (fun hHeld2=>?_);clear hK K hHeld;have hHeld:=hHeld2
  clear hHeld2;try simp only[Act.put,aI]
  refine wpAnyH_ready (rs:=[4]) (by kernel_rfl) (by simp) ?_;refine AllReadyH.cons rfl (fun K hK=>?_) AllReadyH.nil;go_simp
  (repeat(rename_i hwq;clear hwq))
  refine hK.out _ _ (by first|with_reducible exact HL5.out|with_reducible exact aE HL5.out|with_reducible exact aB HL5.out ((aD _ _).alloc (Nat.le_refl _) _) HLT.out|with_reducible exact aB HL5.out (((aD _ _).alloc (Nat.le_refl _) _).drew) HLT.out|with_reducible exact aB HL5.out (((aD _ _).alloc (Nat.le_refl _) _).alloc (by simp) _) HLT.out|with_reducible exact aB HL5.out ((((aD _ _).alloc (Nat.le_refl _) _).alloc (by simp) _).drew) HLT.out|with_reducible exact aB HL5.out ((((aD _ _).drew).alloc (by simp) _).alloc (by simp) _) HLT.out|with_reducible exact aB HL5.out (((aD _ _).drew).alloc (by simp) _) HLT.out) (fun hHeld2=>?_);clear hK K hHeld;have hHeld:=hHeld2
  clear hHeld2;try simp only[Act.put,aI]
  refine wpAnyH_take (i:=5) (v:=?_) rfl (by kernel_rfl) (by kernel_rfl) (by kernel_rfl) (fun _ _ _ h=>h) (Or.inl ⟨by rfl,?_⟩) (by assumption) ?_;rotate_left
  ·(intro w9 hSw;(try dsimp only at hSw);go_simp)<;>with_reducible rfl
  try simp only[Act.put,aI]
  refine wpAnyH_take (i:=12) (v:=?_) rfl (by kernel_rfl) (by kernel_rfl) (by kernel_rfl) (fun _ _ _ h=>h) (Or.inl ⟨by rfl,?_⟩) (by assumption) ?_;rotate_left
  ·(intro w9 hSw;(try dsimp only at hSw);go_simp)<;>with_reducible rfl
  try simp only[Act.put,aI]
  refine wpAnyH_take (i:=13) (v:=?_) rfl (by kernel_rfl) (by kernel_rfl) (by kernel_rfl) (fun _ _ _ h=>h) (Or.inl ⟨by rfl,?_⟩) (by assumption) ?_;rotate_left
  ·(intro w9 hSw;(try dsimp only at hSw);go_simp)<;>with_reducible rfl
  try simp only[Act.put,aI]
  refine wpAnyH_done (by kernel_rfl) ?_ _;rotate_left;rotate_left;go_simp
  (repeat(rename_i hwq;clear hwq))
  refine hK.out _ _ (by first|with_reducible exact HL5.out|with_reducible exact aE HL5.out|with_reducible exact aB HL5.out ((aD _ _).alloc (Nat.le_refl _) _) HLT.out|with_reducible exact aB HL5.out (((aD _ _).alloc (Nat.le_refl _) _).drew) HLT.out|with_reducible exact aB HL5.out (((aD _ _).alloc (Nat.le_refl _) _).alloc (by simp) _) HLT.out|with_reducible exact aB HL5.out ((((aD _ _).alloc (Nat.le_refl _) _).alloc (by simp) _).drew) HLT.out|with_reducible exact aB HL5.out ((((aD _ _).drew).alloc (by simp) _).alloc (by simp) _) HLT.out|with_reducible exact aB HL5.out (((aD _ _).drew).alloc (by simp) _) HLT.out) (fun hHeld2=>?_);clear hK K hHeld;have hHeld:=hHeld2
  clear hHeld2;try simp only[Act.put,aI]
  refine wpAnyH_take (i:=5) (v:=?_) rfl (by kernel_rfl) (by kernel_rfl) (by kernel_rfl) (fun _ _ _ h=>h) (Or.inl ⟨by rfl,?_⟩) (by assumption) ?_;rotate_left
  ·(intro w9 hSw;(try dsimp only at hSw);go_simp)<;>with_reducible rfl
  try simp only[Act.put,aI]
  refine wpAnyH_ready (rs:=[10]) (by kernel_rfl) (by simp) ?_;refine AllReadyH.cons rfl (fun K hK=>?_) AllReadyH.nil;go_simp
  (repeat(rename_i hwq;clear hwq))
  refine hK.out _ _ (by first|with_reducible exact HL5.out|with_reducible exact aE HL5.out|with_reducible exact aB HL5.out ((aD _ _).alloc (Nat.le_refl _) _) HLT.out|with_reducible exact aB HL5.out (((aD _ _).alloc (Nat.le_refl _) _).drew) HLT.out|with_reducible exact aB HL5.out (((aD _ _).alloc (Nat.le_refl _) _).alloc (by simp) _) HLT.out|with_reducible exact aB HL5.out ((((aD _ _).alloc (Nat.le_refl _) _).alloc (by simp) _).drew) HLT.out|with_reducible exact aB HL5.out ((((aD _ _).drew).alloc (by simp) _).alloc (by simp) _) HLT.out|with_reducible exact aB HL5.out (((aD _ _).drew).alloc (by simp) _) HLT.out) (fun hHeld2=>?_);clear hK K hHeld;have hHeld:=hHeld2
  clear hHeld2;try simp only[Act.put,aI]
  refine wpAnyH_ready (rs:=[11]) (by kernel_rfl) (by simp) ?_;refine AllReadyH.cons rfl (fun K hK=>?_) AllReadyH.nil;go_simp
  (repeat(rename_i hwq;clear hwq))
  refine hK.out _ _ (by first|with_reducible exact HL5.out|with_reducible exact aE HL5.out|with_reducible exact aB HL5.out ((aD _ _).alloc (Nat.le_refl _) _) HLT.out|with_reducible exact aB HL5.out (((aD _ _).alloc (Nat.le_refl _) _).drew) HLT.out|with_reducible exact aB HL5.out (((aD _ _).alloc (Nat.le_refl _) _).alloc (by simp) _) HLT.out|with_reducible exact aB HL5.out ((((aD _ _).alloc (Nat.le_refl _) _).alloc (by simp) _).drew) HLT.out|with_reducible exact aB HL5.out ((((aD _ _).drew).alloc (by simp) _).alloc (by simp) _) HLT.out|with_reducible exact aB HL5.out (((aD _ _).drew).alloc (by simp) _) HLT.out) (fun hHeld2=>?_);clear hK K hHeld;have hHeld:=hHeld2
  clear hHeld2;try simp only[Act.put,aI]
  refine wpAnyH_take (i:=12) (v:=?_) rfl (by kernel_rfl) (by kernel_rfl) (by kernel_rfl) (fun _ _ _ h=>h) (Or.inl ⟨by rfl,?_⟩) (by assumption) ?_;rotate_left
  ·(intro w9 hSw;(try dsimp only at hSw);go_simp)<;>with_reducible rfl
  try simp only[Act.put,aI]
  refine wpAnyH_take (i:=13) (v:=?_) rfl (by kernel_rfl) (by kernel_rfl) (by kernel_rfl) (fun _ _ _ h=>h) (Or.inl ⟨by rfl,?_⟩) (by assumption) ?_;rotate_left
  ·(intro w9 hSw;(try dsimp only at hSw);go_simp)<;>with_reducible rfl
  try simp only[Act.put,aI]
  refine wpAnyH_done (by kernel_rfl) ?_ _;rotate_left;go_simp
  (repeat(rename_i hwq;clear hwq))
  refine hK.out _ _ (by first|with_reducible exact HL5.out|with_reducible exact aE HL5.out|with_reducible exact aB HL5.out ((aD _ _).alloc (Nat.le_refl _) _) HLT.out|with_reducible exact aB HL5.out (((aD _ _).alloc (Nat.le_refl _) _).drew) HLT.out|with_reducible exact aB HL5.out (((aD _ _).alloc (Nat.le_refl _) _).alloc (by simp) _) HLT.out|with_reducible exact aB HL5.out ((((aD _ _).alloc (Nat.le_refl _) _).alloc (by simp) _).drew) HLT.out|with_reducible exact aB HL5.out ((((aD _ _).drew).alloc (by simp) _).alloc (by simp) _) HLT.out|with_reducible exact aB HL5.out (((aD _ _).drew).alloc (by simp) _) HLT.out) (fun hHeld2=>?_);clear hK K hHeld;have hHeld:=hHeld2
  clear hHeld2;try simp only[Act.put,aI]
  refine wpAnyH_take (i:=5) (v:=?_) rfl (by kernel_rfl) (by kernel_rfl) (by kernel_rfl) (fun _ _ _ h=>h) (Or.inl ⟨by rfl,?_⟩) (by assumption) ?_;rotate_left
  ·(intro w9 hSw;(try dsimp only at hSw);go_simp)<;>with_reducible rfl
  try simp only[Act.put,aI]
  refine wpAnyH_ready (rs:=[11]) (by kernel_rfl) (by simp) ?_;refine AllReadyH.cons rfl (fun K hK=>?_) AllReadyH.nil;go_simp
  (repeat(rename_i hwq;clear hwq))
  refine hK.out _ _ (by first|with_reducible exact HL5.out|with_reducible exact aE HL5.out|with_reducible exact aB HL5.out ((aD _ _).alloc (Nat.le_refl _) _) HLT.out|with_reducible exact aB HL5.out (((aD _ _).alloc (Nat.le_refl _) _).drew) HLT.out|with_reducible exact aB HL5.out (((aD _ _).alloc (Nat.le_refl _) _).alloc (by simp) _) HLT.out|with_reducible exact aB HL5.out ((((aD _ _).alloc (Nat.le_refl _) _).alloc (by simp) _).drew) HLT.out|with_reducible exact aB HL5.out ((((aD _ _).drew).alloc (by simp) _).alloc (by simp) _) HLT.out|with_reducible exact aB HL5.out (((aD _ _).drew).alloc (by simp) _) HLT.out) (fun hHeld2=>?_);clear hK K hHeld;have hHeld:=hHeld2
  clear hHeld2;try simp only[Act.put,aI]
  refine wpAnyH_take (i:=12) (v:=?_) rfl (by kernel_rfl) (by kernel_rfl) (by kernel_rfl) (fun _ _ _ h=>h) (Or.inl ⟨by rfl,?_⟩) (by assumption) ?_;rotate_left
  ·(intro w9 hSw;(try dsimp only at hSw);go_simp)<;>with_reducible rfl
  try simp only[Act.put,aI]
  refine wpAnyH_take (i:=13) (v:=?_) rfl (by kernel_rfl) (by kernel_rfl) (by kernel_rfl) (fun _ _ _ h=>h) (Or.inl ⟨by rfl,?_⟩) (by assumption) ?_;rotate_left
  ·(intro w9 hSw;(try dsimp only at hSw);go_simp)<;>with_reducible rfl
  try simp only[Act.put,aI]
  refine wpAnyH_done (by kernel_rfl) ?_ _;rotate_left;rotate_left;go_simp
  (repeat(rename_i hwq;clear hwq))
  refine hK.out _ _ (by first|with_reducible exact HL5.out|with_reducible exact aE HL5.out|with_reducible exact aB HL5.out ((aD _ _).alloc (Nat.le_refl _) _) HLT.out|with_reducible exact aB HL5.out (((aD _ _).alloc (Nat.le_refl _) _).drew) HLT.out|with_reducible exact aB HL5.out (((aD _ _).alloc (Nat.le_refl _) _).alloc (by simp) _) HLT.out|with_reducible exact aB HL5.out ((((aD _ _).alloc (Nat.le_refl _) _).alloc (by simp) _).drew) HLT.out|with_reducible exact aB HL5.out ((((aD _ _).drew).alloc (by simp) _).alloc (by simp) _) HLT.out|with_reducible exact aB HL5.out (((aD _ _).drew).alloc (by simp) _) HLT.out) (fun hHeld2=>?_);clear hK K hHeld;have hHeld:=hHeld2
  clear hHeld2;try simp only[Act.put,aI]
  refine wpAnyH_take (i:=5) (v:=?_) rfl (by kernel_rfl) (by kernel_rfl) (by kernel_rfl) (fun _ _ _ h=>h) (Or.inl ⟨by rfl,?_⟩) (by assumption) ?_;rotate_left
  ·(intro w9 hSw;(try dsimp only at hSw);go_simp)<;>with_reducible rfl
  try simp only[Act.put,aI]
  refine wpAnyH_ready (rs:=[11]) (by kernel_rfl) (by simp) ?_;refine AllReadyH.cons rfl (fun K hK=>?_) AllReadyH.nil;go_simp
  (repeat(rename_i hwq;clear hwq))
  refine hK.out _ _ (by first|with_reducible exact HL5.out|with_reducible exact aE HL5.out|with_reducible exact aB HL5.out ((aD _ _).alloc (Nat.le_refl _) _) HLT.out|with_reducible exact aB HL5.out (((aD _ _).alloc (Nat.le_refl _) _).drew) HLT.out|with_reducible exact aB HL5.out (((aD _ _).alloc (Nat.le_refl _) _).alloc (by simp) _) HLT.out|with_reducible exact aB HL5.out ((((aD _ _).alloc (Nat.le_refl _) _).alloc (by simp) _).drew) HLT.out|with_reducible exact aB HL5.out ((((aD _ _).drew).alloc (by simp) _).alloc (by simp) _) HLT.out|with_reducible exact aB HL5.out (((aD _ _).drew).alloc (by simp) _) HLT.out) (fun hHeld2=>?_);clear hK K hHeld;have hHeld:=hHeld2
  clear hHeld2;try simp only[Act.put,aI]
  refine wpAnyH_take (i:=12) (v:=?_) rfl (by kernel_rfl) (by kernel_rfl) (by kernel_rfl) (fun _ _ _ h=>h) (Or.inl ⟨by rfl,?_⟩) (by assumption) ?_;rotate_left
  ·(intro w9 hSw;(try dsimp only at hSw);go_simp)<;>with_reducible rfl
  try simp only[Act.put,aI]
  refine wpAnyH_take (i:=13) (v:=?_) rfl (by kernel_rfl) (by kernel_rfl) (by kernel_rfl) (fun _ _ _ h=>h) (Or.inl ⟨by rfl,?_⟩) (by assumption) ?_;rotate_left
  ·(intro w9 hSw;(try dsimp only at hSw);go_simp)<;>with_reducible rfl
  try simp only[Act.put,aI]
  refine wpAnyH_done (by kernel_rfl) ?_ _;rotate_left
  all_goals(
   have HF:Hid (R=fI 5 to a b n f):=by rw[←HR.out];exact aA (hU HW.out (by rw[HRAW.out];simp))
   rw[HRAW.out]at HF;clear HR HW HRAW HNA;obtain⟨l0,l1,l2,l3,l4⟩:=HL5.out;clear hcv;obtain⟨x00,x01,x02,x03,x04⟩:L5 (((w1.alloc (.cells #[.int .u8 (65+to)] 5)).alloc (.cells #[.string ⟨#[]⟩,.string ⟨#[115,101,116]⟩,.string ⟨#[97,100,100]⟩,.string ⟨#[109,117,108]⟩,.string ⟨#[97,112,97,114,116]⟩,.string ⟨#[100,111]⟩,.string ⟨#[114,111,117,110,100]⟩,.string ⟨#[98,97,99,107]⟩,.string ⟨#[115,104,111,119]⟩] 9)).alloc (.cells #[.int .u8 (65+a)] 5)) w.heap.size 5 to a b pa n cap:=aB HL5.out (aR (aR (aR (aD _ _)))) HLT.out;have hca0:=cK a0 a5 ((w1.alloc (.cells #[.int .u8 (65+to)] 5)).alloc (.cells #[.string ⟨#[]⟩,.string ⟨#[115,101,116]⟩,.string ⟨#[97,100,100]⟩,.string ⟨#[109,117,108]⟩,.string ⟨#[97,112,97,114,116]⟩,.string ⟨#[100,111]⟩,.string ⟨#[114,111,117,110,100]⟩,.string ⟨#[98,97,99,107]⟩,.string ⟨#[115,104,111,119]⟩] 9)) (w1.heap.size+1+1) (by simp) 5
   have hcb0:=cK b0 b5 (((w1.alloc (.cells #[.int .u8 (65+to)] 5)).alloc (.cells #[.string ⟨#[]⟩,.string ⟨#[115,101,116]⟩,.string ⟨#[97,100,100]⟩,.string ⟨#[109,117,108]⟩,.string ⟨#[97,112,97,114,116]⟩,.string ⟨#[100,111]⟩,.string ⟨#[114,111,117,110,100]⟩,.string ⟨#[98,97,99,107]⟩,.string ⟨#[115,104,111,119]⟩] 9)).alloc (.cells #[.int .u8 (65+a)] 5)) (w1.heap.size+1+1+1) (by simp) 5;obtain⟨y00,y01,y02,y03,y04⟩:L5 ((((w1.alloc (.cells #[.int .u8 (65+to)] 5)).alloc (.cells #[.string ⟨#[]⟩,.string ⟨#[115,101,116]⟩,.string ⟨#[97,100,100]⟩,.string ⟨#[109,117,108]⟩,.string ⟨#[97,112,97,114,116]⟩,.string ⟨#[100,111]⟩,.string ⟨#[114,111,117,110,100]⟩,.string ⟨#[98,97,99,107]⟩,.string ⟨#[115,104,111,119]⟩] 9)).alloc (.cells #[.int .u8 (65+a)] 5)).alloc (.cells #[.int .u8 (65+b)] 5)) w.heap.size 5 to a b pa n cap:=aB HL5.out (aR (aR (aR (aR (aD _ _))))) HLT.out;obtain⟨x10,x11,x12,x13,x14⟩:L5 (((w1.alloc (.cells #[.string ⟨#[]⟩,.string ⟨#[115,101,116]⟩,.string ⟨#[97,100,100]⟩,.string ⟨#[109,117,108]⟩,.string ⟨#[97,112,97,114,116]⟩,.string ⟨#[100,111]⟩,.string ⟨#[114,111,117,110,100]⟩,.string ⟨#[98,97,99,107]⟩,.string ⟨#[115,104,111,119]⟩] 9)).alloc (.cells #[.int .u8 (65+to)] 5)).alloc (.cells #[.int .u8 (65+a)] 5)) w.heap.size 5 to a b pa n cap:=aB HL5.out (aR (aR (aR (aD _ _)))) HLT.out;have hca1:=cK a0 a5 ((w1.alloc (.cells #[.string ⟨#[]⟩,.string ⟨#[115,101,116]⟩,.string ⟨#[97,100,100]⟩,.string ⟨#[109,117,108]⟩,.string ⟨#[97,112,97,114,116]⟩,.string ⟨#[100,111]⟩,.string ⟨#[114,111,117,110,100]⟩,.string ⟨#[98,97,99,107]⟩,.string ⟨#[115,104,111,119]⟩] 9)).alloc (.cells #[.int .u8 (65+to)] 5)) (w1.heap.size+1+1) (by simp) 5
   have hcb1:=cK b0 b5 (((w1.alloc (.cells #[.string ⟨#[]⟩,.string ⟨#[115,101,116]⟩,.string ⟨#[97,100,100]⟩,.string ⟨#[109,117,108]⟩,.string ⟨#[97,112,97,114,116]⟩,.string ⟨#[100,111]⟩,.string ⟨#[114,111,117,110,100]⟩,.string ⟨#[98,97,99,107]⟩,.string ⟨#[115,104,111,119]⟩] 9)).alloc (.cells #[.int .u8 (65+to)] 5)).alloc (.cells #[.int .u8 (65+a)] 5)) (w1.heap.size+1+1+1) (by simp) 5;obtain⟨y10,y11,y12,y13,y14⟩:L5 ((((w1.alloc (.cells #[.string ⟨#[]⟩,.string ⟨#[115,101,116]⟩,.string ⟨#[97,100,100]⟩,.string ⟨#[109,117,108]⟩,.string ⟨#[97,112,97,114,116]⟩,.string ⟨#[100,111]⟩,.string ⟨#[114,111,117,110,100]⟩,.string ⟨#[98,97,99,107]⟩,.string ⟨#[115,104,111,119]⟩] 9)).alloc (.cells #[.int .u8 (65+to)] 5)).alloc (.cells #[.int .u8 (65+a)] 5)).alloc (.cells #[.int .u8 (65+b)] 5)) w.heap.size 5 to a b pa n cap:=aB HL5.out (aR (aR (aR (aR (aD _ _))))) HLT.out;go_wp2
   (try((first|erw[hca0]|erw[hca1]);go_wp2))
   (try((first|erw[hcb0]|erw[hcb1]);go_wp2))
   go_ret;refine⟨congrArg (fun x=>Ending.returned (Value.string x)) ?_,?_⟩
   ·rw[HF.out];apply ByteArray.ext;simp only[ByteArray.data_append,List.append_toArray,List.cons_append,List.nil_append]
   repeat(first|with_reducible exact HB1.out|with_reducible refine kY ?_|with_reducible refine aR ?_))
theorem fB (k to a b:Int) (pa:Option Addr) (n cap:Nat) (f:Nat→T) (w:World) (h:Rd w pa n cap f):Calls Tryz.prog 34 #[.agg #[.int .i64 k,.int .i64 to,.int .i64 a,.int .i64 b,.slice pa n cap]] w fun r w'=>r= .returned (.string ⟨(dW k to a b n f).toArray⟩)∧Below w.heap.size w w':=by
 rcases(show(k<1∨(1≤k∧8<k))∨k=1∨k=2∨k=3∨k=4∨k=5∨k=6∨k=7∨k=8 by omega)with hk|rfl|rfl|rfl|rfl|rfl|rfl|rfl|rfl
 ·exact KB k hk to a b pa n cap f w h
 ·exact KC to a b pa n cap f w h
 ·exact KD to a b pa n cap f w h
 ·exact KE to a b pa n cap f w h
 ·exact KG to a b pa n cap f w h
 ·exact KH to a b pa n cap f w h
 ·exact KI to a b pa n cap f w h
 ·exact KJ to a b pa n cap f w h
 ·exact KL to a b pa n cap f w h
open Go.Shelf Go.RowKit
theorem AV (k:Int) (w:World):Calls Tryz.prog 70 #[.int .i64 k] w fun e w'=>e= .returned (.int .i64 (gA k))∧w'=w:=by
 rcases(show k=1∨k=2∨k=3∨k=4∨k=5∨k=6∨k=7∨k=8∨¬(1≤k∧k≤8) by omega)with rfl|rfl|rfl|rfl|rfl|rfl|rfl|rfl|hk
 ·go_enter Tryz.func70,Tryz.ntmps70;go_wp2;go_ret;exact⟨rfl,rfl⟩
 ·go_enter Tryz.func70,Tryz.ntmps70;go_wp2;go_ret;exact⟨rfl,rfl⟩
 ·go_enter Tryz.func70,Tryz.ntmps70;go_wp2;go_ret;exact⟨rfl,rfl⟩
 ·go_enter Tryz.func70,Tryz.ntmps70;go_wp2;go_ret;exact⟨rfl,rfl⟩
 ·go_enter Tryz.func70,Tryz.ntmps70;go_wp2;go_ret;exact⟨rfl,rfl⟩
 ·go_enter Tryz.func70,Tryz.ntmps70;go_wp2;go_ret;exact⟨rfl,rfl⟩
 ·go_enter Tryz.func70,Tryz.ntmps70;go_wp2;go_ret;exact⟨rfl,rfl⟩
 ·go_enter Tryz.func70,Tryz.ntmps70;go_wp2;go_ret;exact⟨rfl,rfl⟩
 ·have e:gA k=0:=by unfold gA;rw[if_neg (by omega),if_neg (by omega),if_neg (by omega)]
  have b1:(k==1)=false:=by simp;omega
  have b2:(k==2)=false:=by simp;omega
  have b3:(k==3)=false:=by simp;omega
  have b4:(k==4)=false:=by simp;omega
  have b5:(k==5)=false:=by simp;omega
  have b6:(k==6)=false:=by simp;omega
  have b7:(k==7)=false:=by simp;omega
  have b8:(k==8)=false:=by simp;omega
  rw[e];clear e hk;go_enter Tryz.func70,Tryz.ntmps70;go_wp2;go_ret;exact⟨rfl,rfl⟩
theorem BT (k to a b:Int) (pa:Option Addr) (n cap:Nat) (w:World):Calls Tryz.prog 69 #[.agg #[.int .i64 k,.int .i64 to,.int .i64 a,.int .i64 b,.slice pa n cap]] w fun e w'=>e= .returned (.agg #[.int .i64 to,.int .i64 a,.int .i64 b])∧Below w.heap.size w w':=by go_enter Tryz.func69,Tryz.ntmps69;go_wp2;refine bT (v:=.agg #[.int .i64 to,.int .i64 a,.int .i64 b]) (by simp[results,Tryz.results69,go_sem]) rfl ⟨rfl,?_⟩;first|exact cW w _ _|exact aG w _
def sv (to a b:Int) (j:Nat):Int:=if j=0 then to else if j=1 then a else b
def nI (N:Nat) (to a b:Int) (j:Nat):Bool:=decide ((0≤sv to a b j∧sv to a b j≤5)∧(j<N∨sv to a b j=0))
theorem IC {k to a b:Int} {n:Nat} {f:Nat→T} (hN:gA k≠0):qS k to a b n f=(aN n f&&nI (gA k) to a b 0&&nI (gA k) to a b 1&&nI (gA k) to a b 2&&(decide (k=1)||decide (n=0))):=by
 have hk:1≤k∧k≤8:=by
  unfold gA at hN;split at hN
  ·omega
  ·split at hN
   ·omega
   ·split at hN
    ·omega
    ·exact absurd rfl hN
 have hN1:1≤gA k:=by omega
 rw[Bool.eq_iff_iff];simp only[qS,nI,sv,decide_eq_true_eq,Bool.and_eq_true,Bool.or_eq_true,if_true,if_false,if_pos,show(1:Nat)≠0 by omega,show(2:Nat)≠0 by omega,show(2:Nat)≠1 by omega];generalize gA k=N at *;constructor
 ·rintro⟨q1,q2,q3,q4,q5,q6,q7,q8⟩;exact⟨⟨⟨⟨q5,q2,.inl (by omega)⟩,q3,by omega⟩,q4,by omega⟩,q8⟩
 ·rintro⟨⟨⟨⟨q5,q2,_⟩,q3,q6⟩,q4,q7⟩,q8⟩;exact⟨hk,q2,q3,q4,q5,by omega,by omega,q8⟩
theorem xN (k to a b:Int) (pa:Option Addr) (n cap:Nat) (f:Nat→T) (w:World) (h:Rd w pa n cap f):Calls Tryz.prog 68 #[.agg #[.int .i64 k,.int .i64 to,.int .i64 a,.int .i64 b,.slice pa n cap]] w fun r w'=>r= .returned (.bool (qS k to a b n f))∧Below w.heap.size w w':=by
 have hB0:=aG w (.cells #[.int .i64 k,.int .i64 to,.int .i64 a,.int .i64 b,.slice pa n cap] 24);have hnI:(n:Int)≤9223372036854775807:=by have:=h.2.1;omega
 have HRD:=aA (h.below hB0);have HB0:=aA hB0
 have hx:∀j:Nat,(w.alloc (.cells #[.int .i64 k,.int .i64 to,.int .i64 a,.int .i64 b,.slice pa n cap] 24)).cell? ⟨w.heap.size,j,none⟩=#[Value.int .i64 k,.int .i64 to,.int .i64 a,.int .i64 b,.slice pa n cap][j]? :=fun j=>World.cell?_alloc_at _ _ _ _ rfl
 have HX:=aA hx;obtain⟨N,hN⟩:∃N,gA k=N:=⟨_,rfl⟩
 have HNM:=aA (AV k (w.alloc (.cells #[.int .i64 k,.int .i64 to,.int .i64 a,.int .i64 b,.slice pa n cap] 24)));rw[hN]at HNM;clear hB0 h hx;obtain⟨R,hR⟩:∃R,qS k to a b n f=R:=⟨_,rfl⟩
 rw[hR];by_cases h0:N=0
 ·have HZ:Hid (R=false):=by
   rw[←hR]
   exact aA (aW (fun q=>by
    have:=q.1;rw[h0]at hN
    revert hN
    unfold gA;split
    ·omega
    ·split
     ·omega
     ·split
      ·omega
      ·omega))
  have h0b:((N:Int)==0)=true:=by rw[h0];rfl
  clear hN hR h0;go_enter Tryz.func68,Tryz.ntmps68;go_wp2_with fail;refine HNM.out.mono ?_;rintro r w' ⟨rfl,hw'⟩;obtain rfl:=hw'.symm;clear hw';go_wp2;go_ret;exact⟨by rw[HZ.out];rfl,HB0.out⟩
 ·have h0b:((N:Int)==0)=false:=by simp;omega
  have HW:Hid (R=(aN n f&&nI N to a b 0&&nI N to a b 1&&nI N to a b 2&&(decide (k=1)||decide (n=0)))):=by rw[←hR,IC (by rw[hN];exact h0),hN];exact aA rfl
  clear hN hR;obtain⟨ok,hok⟩:∃x,aN n f=x:=⟨_,rfl⟩
  have HC:=aA (dM _ pa n cap f HRD.out);rw[hok]at HC HW;clear hok;cases ok
  ·have HZ:Hid (R=false):=by rw[HW.out];exact aA (by simp)
   go_enter Tryz.func68,Tryz.ntmps68;go_wp2_with fail;refine HNM.out.mono ?_;rintro r w' ⟨rfl,hw'⟩;obtain rfl:=hw'.symm;clear hw';go_wp2_with fail;refine HC.out.mono ?_;rintro r w1 ⟨rfl,hb1⟩;have HB1:=aA (aC HB0.out hb1)
   clear hb1;go_wp2;go_ret;exact⟨by rw[HZ.out];rfl,HB1.out⟩
  ·have i0:∀u:World,(Instr.index 88 (.agg #[.int .i64 to,.int .i64 a,.int .i64 b]) (.int .i64 0)).run Tryz.prog u= .ok (.int .i64 to) u:=fun _=>by kernel_rfl
   have i1:∀u:World,(Instr.index 88 (.agg #[.int .i64 to,.int .i64 a,.int .i64 b]) (.int .i64 1)).run Tryz.prog u= .ok (.int .i64 a) u:=fun _=>by kernel_rfl
   have i2:∀u:World,(Instr.index 88 (.agg #[.int .i64 to,.int .i64 a,.int .i64 b]) (.int .i64 2)).run Tryz.prog u= .ok (.int .i64 b) u:=fun _=>by kernel_rfl
   have HI:Hid (∀(j:Nat),j<3→∀u:World,(Instr.index 88 (.agg #[.int .i64 to,.int .i64 a,.int .i64 b]) (.int .i64 (j:Int))).run Tryz.prog u= .ok (.int .i64 (sv to a b j)) u):=aA (fun j hj u=>by
    rcases(show j=0∨j=1∨j=2 by omega)with rfl|rfl|rfl
    ·exact i0 u
    ·exact i1 u
    ·exact i2 u)
   clear i0 i1 i2;go_enter Tryz.func68,Tryz.ntmps68;go_wp2_with fail;refine HNM.out.mono ?_;rintro r w' ⟨rfl,hw'⟩;obtain rfl:=hw'.symm;clear hw';go_wp2_with fail;refine HC.out.mono ?_;rintro r w1 ⟨rfl,hb1⟩;have hlt1:w.heap.size<w1.heap.size:=dR (by simp) hb1.size
   have hcc:∀j:Nat,w1.cell? ⟨w.heap.size,j,none⟩=#[Value.int .i64 k,.int .i64 to,.int .i64 a,.int .i64 b,.slice pa n cap][j]? :=fun j=>(hb1.cell (p:=⟨w.heap.size,j,none⟩) (by simp)).trans (HX.out j)
   have l0:=hcc 0;have l1:=hcc 1
   have l2:=hcc 2;have l3:=hcc 3
   have l4:=hcc 4;simp at l0 l1 l2 l3 l4;have HCC:=aA hcc
   have HB1:=aA (aC HB0.out hb1);clear hb1 hcc;go_wp2_with fail;refine(BT k to a b pa n cap _).mono ?_;rintro r w2 ⟨rfl,hb2⟩;have HB2:=aA (aC HB1.out hb2)
   have m0:w2.cell? ⟨w.heap.size,0,none⟩=some (.int .i64 k):=(hb2.cell (p:=⟨w.heap.size,0,none⟩) hlt1).trans l0;have m4:w2.cell? ⟨w.heap.size,4,none⟩=some (.slice pa n cap):=(hb2.cell (p:=⟨w.heap.size,4,none⟩) hlt1).trans l4
   have M0:=aA m0;have M4':=aA m4
   clear hb2 l0 l1 l2 l3 l4 m0 m4 HB1 HCC;go_wp2;go_loopw [19] (fun v wr=>∃j:Nat,j≤3∧v= .int .i64 (j:Int)∧Hid (∀i,i<j→nI N to a b i=true)∧wr=w2) (fun v _=>3-(intOf v).toNat);case atStart=>exact⟨0,by omega,rfl,aA (fun i hi=>by omega),rfl⟩
   case round=>
    obtain⟨j,hj,rfl,HS,hwr⟩:=hrel;obtain rfl:=hwr.symm;clear hwr;by_cases hj3:j<3
    ·have hjI:(j:Int)<3:=by omega
     have hix:=HI.out j hj3;obtain⟨x,hxx⟩:∃x,sv to a b j=x:=⟨_,rfl⟩
     rw[hxx]at hix;have HXX:=aA hxx
     clear hxx
     have HBAD:Hid (¬((0≤x∧x≤5)∧(j<N∨x=0))→R=false):=aA (fun q=>by
      have e:nI N to a b j=false:=by unfold nI;rw[HXX.out];exact decide_eq_false q
      rw[HW.out]
      rcases(show j=0∨j=1∨j=2 by omega)with rfl|rfl|rfl<;>rw[e]<;>simp)
     have HGO:Hid (((0≤x∧x≤5)∧(j<N∨x=0))→∀i,i<j+1→nI N to a b i=true):=aA (fun q i hi=>by
      by_cases hij:i=j
      ·subst hij;unfold nI;rw[HXX.out];exact decide_eq_true q
      ·exact HS.out i (by omega))
     by_cases x0:x<0
     ·have HZ:=aA (HBAD.out (fun q=>by omega));clear HBAD HGO;go_wp2;go_ret;exact⟨by rw[HZ.out];rfl,HB2.out⟩
     ·by_cases x5:6≤x
      ·have HZ:=aA (HBAD.out (fun q=>by omega));have x0b:¬x<0:=x0
       clear HBAD HGO;go_wp2;go_ret;exact⟨by rw[HZ.out];rfl,HB2.out⟩
      ·by_cases hjN:j<N
       ·have HZ:=aA (HGO.out ⟨⟨by omega,by omega⟩,.inl hjN⟩);have hNI:¬(N:Int)≤(j:Int):=by omega
        clear HBAD HGO;go_wp2;go_roundw;case rel=>exact⟨j+1,by omega,by go_num,HZ,by first|rfl|trivial⟩
        case measure=>simp[intOf];omega
       ·have hNI:(N:Int)≤(j:Int):=by omega
        by_cases xz:x=0
        ·have HZ:=aA (HGO.out ⟨⟨by omega,by omega⟩,.inr xz⟩);have xzb:(x !=0)=false:=by simp[xz]
         clear HBAD HGO xz;go_wp2;go_roundw;case rel=>exact⟨j+1,by omega,by go_num,HZ,by first|rfl|trivial⟩
         case measure=>simp[intOf];omega
        ·have HZ:=aA (HBAD.out (fun q=>by omega));have xzb:(x !=0)=true:=by simp[xz]
         clear HBAD HGO xz;go_wp2;go_ret;exact⟨by rw[HZ.out];rfl,HB2.out⟩
    ·have hje:j=3:=by omega
     subst hje;have HZ:Hid (R=(decide (k=1)||decide (n=0))):=by rw[HW.out,HS.out 0 (by omega),HS.out 1 (by omega),HS.out 2 (by omega)];exact aA (by simp)
     have m0:=M0.out;have m4:=M4'.out
     by_cases k1:k=1
     ·have k1b:(k==1)=true:=by simp[k1]
      have HY:Hid (R=true):=by rw[HZ.out];exact aA (by simp[k1])
      clear k1;go_wp2;go_ret;exact⟨by rw[HY.out];rfl,HB2.out⟩
     ·have k1b:(k==1)=false:=by simp[k1]
      have HY:Hid (R=decide (n=0)):=by rw[HZ.out];exact aA (by simp[k1])
      clear k1;by_cases n0:n=0
      ·have n0b:((n:Int)==0)=true:=by simp[n0]
       have HY2:Hid (R=true):=by rw[HY.out];exact aA (decide_eq_true n0)
       clear n0;go_wp2;go_ret;exact⟨by rw[HY2.out];rfl,HB2.out⟩
      ·have n0b:((n:Int)==0)=false:=by simp;omega
       have HY2:Hid (R=false):=by rw[HY.out];exact aA (decide_eq_false n0)
       clear n0;go_wp2;go_ret;exact⟨by rw[HY2.out];rfl,HB2.out⟩
end Go.Proofs.YtoglomfejgpoeaaGreatDoor
