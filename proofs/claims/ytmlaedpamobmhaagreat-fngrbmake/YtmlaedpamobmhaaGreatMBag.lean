/-
  An order, operators and a measure are drawn (spec.DrawGrbMake).
-/
import Derived.Test.YtmlaedpamobmhaaGreatMBac
set_option maxHeartbeats 8000000
set_option maxRecDepth 100000
namespace Go.Proofs.YtmlaedpamobmhaaGreat
open Go.RowKit Go.Deep Go.Joins
set_option linter.unusedVariables false
set_option linter.unusedSimpArgs false
def Gp (w:World) (e:Ending) (w':World):Prop:=∃(o:Int) (a:Option Addr) (n c:Nat) (ad:Nat→Option Addr) (cp:Nat→Nat) (L:Nat→List T) (fuel:Int),e= .returned (.tuple #[.int .i64 o,.slice a n c,.int .i64 fuel])∧eJ w' a n c ad (lN L) cp (fN L)∧n≤5∧(-1≤fuel∧fuel≤61)∧Below w.heap.size w w'
def A1 (w u:World) (k:Nat):Prop:=∃p,p≤k∧jL u w.heap.size p∧Below w.heap.size w u
theorem A1.alloc {w u:World} {k:Nat} (h:A1 w u k) (o:Obj):A1 w (u.alloc o) k:=by obtain⟨p,h1,h2,h3⟩:=h;exact⟨p,h1,h2.alloc o,h3.alloc (Nat.le_of_lt h2.lt) o⟩
theorem A1.lt {w u:World} {k:Nat} (h:A1 w u k):w.heap.size<u.heap.size:=by obtain⟨p,h1,h2,h3⟩:=h;exact h2.lt
theorem A1.bel {w u:World} {k:Nat} (h:A1 w u k):Below w.heap.size w u:=by obtain⟨p,h1,h2,h3⟩:=h;exact h3
theorem Gz (u:Int) (u0:0≤u) (u1:u<7):∃x:Int,#[Value.int .i64 60,.int .i64 60,.int .i64 60,.int .i64 3,.int .i64 0,.int .i64 (-1),.int .i64 61][u.toNat]? =some (.int .i64 x)∧ -1≤x∧x≤61:=by
 have hu:u=0∨u=1∨u=2∨u=3∨u=4∨u=5∨u=6:=by omega
 rcases hu with rfl|rfl|rfl|rfl|rfl|rfl|rfl<;>exact⟨_,rfl,by omega,by omega⟩
def KZ (B N:Nat) (u:World):Prop:=N≠B∧N<u.heap.size∧∀j:Int,0≤j→j<7→∃x:Int,u.cell? ⟨N,j.toNat,none⟩=some (.int .i64 x)∧ -1≤x∧x≤61
theorem oV {w u:World} {k:Nat} (hA:A1 w u k) (y:TypeId):KZ w.heap.size u.heap.size (u.alloc (.cells #[.int .i64 60,.int .i64 60,.int .i64 60,.int .i64 3,.int .i64 0,.int .i64 (-1),.int .i64 61] y)):=by have hl:=hA.lt;refine⟨by omega,by simp,fun j j0 j7=>?_⟩;obtain⟨x,hx,h1,h2⟩:=Gz j j0 j7;exact⟨x,by rw[World.cell?_alloc_at _ _ _ _ rfl];exact hx,h1,h2⟩
theorem KZ.on {B N:Nat} {u u':World} (h:KZ B N u) (hb:aD B u u'):KZ B N u':=
 ⟨h.1,iZ h.2.1 hb.size,fun j j0 j7=>(h.2.2 j j0 j7).imp fun x ⟨h1,h2⟩=>⟨(hb.cell h.2.1 h.1).trans h1,h2⟩⟩
def RN (u u':World):Prop:=Below u.heap.size u u'
theorem BW {N:Nat→Prop} {w w':World} {a:Option Addr} {g c:Nat} {ad:Nat→Option Addr} {cp:Nat→Nat} {Q:Nat→List T} (h:mD N w a g c ad cp Q) (hb:RN w w'):mD N w' a g c ad cp Q:=h.below hb
theorem xX (w:World) (o:Obj):RN w (w.alloc o):=aC w o
theorem DQ {N:Nat→Prop} {w:World} {a:Option Addr} {g c:Nat} {ad:Nat→Option Addr} {cp:Nat→Nat} {P:Nat→List T} (h:mD N w a g c ad cp P):eJ w a g c ad (lN P) cp (fN P):=h.1
theorem lL (w:World):w.drew.heap=w.heap:=rfl
theorem Fa {w u:World} {k:Nat} (h:A1 w u k) (hk:k≤90):Calls Tryz.prog 36 #[.pointer (some ⟨w.heap.size,0,none⟩)] u fun e u'=>∃x,e= .returned (.int .i64 x)∧A1 w u' (k+1)∧aD w.heap.size u u':=by obtain⟨p,h1,h2,h3⟩:=h;exact(BJ u _ p h2 (by omega)).mono fun e u' ⟨x,e1,r,s⟩=>⟨x,e1,⟨p+1,by omega,r,s.below h3 (Nat.le_refl _) (Nat.le_of_lt h2.lt)⟩,s⟩
theorem vW {w u:World} {k:Nat} (n:Int) (h:A1 w u k) (hn:1≤n) (hn':n≤1000) (hk:k≤9000):Calls Tryz.prog 38 #[.pointer (some ⟨w.heap.size,0,none⟩),.int .i64 n] u fun e u'=>∃x,e= .returned (.int .i64 x)∧0≤x∧x<n∧A1 w u' (k+1)∧aD w.heap.size u u':=by obtain⟨p,h1,h2,h3⟩:=h;exact(bM u _ p n h2 hn (by omega) (by omega)).mono fun e u' ⟨x,e1,x0,x1,s⟩=>⟨x,e1,x0,x1,⟨p+1,by omega,s.rdr h2,s.beside.below h3 (Nat.le_refl _) (Nat.le_of_lt h2.lt)⟩,s.beside⟩
theorem LZ {w u:World} {k:Nat} (most:Int) (h:A1 w u k) (m1:1≤most) (m2:most≤4) (hk:k≤700):Calls Tryz.prog 37 #[.pointer (some ⟨w.heap.size,0,none⟩),.int .i64 most,.int .i64 24] u fun e u'=>∃a n c ad cp L,e= .returned (.slice a n c)∧n≤5∧mD (fun b=>b≠w.heap.size) u' a n c ad cp L∧A1 w u' (k+1000)∧aD w.heap.size u u':=by obtain⟨p,h1,h2,h3⟩:=h;refine(FS u _ p most 24 h2 m1 m2 (by omega) (by omega) (by omega)).mono ?_;rintro e u' ⟨v,LS,q,rfl,ho,hl,hE,hq,r,s⟩;obtain⟨a,c,ad,cp,L,rfl,hr⟩:=yT (B:=w.heap.size) ho hE (by omega) h2.lt h2.lt;exact⟨a,_,c,ad,cp,L,rfl,hl,hr,⟨q,by omega,r,s.below h3 (Nat.le_refl _) (Nat.le_of_lt h2.lt)⟩,s⟩
theorem oW (w:World) (a:Option Addr) (len cap:Nat) (h:LD w a len cap):Calls Tryz.prog 9 #[.slice a len cap] w (Gp w):=by
 go_enter Tryz.func9,Tryz.ntmps9;go_wp2_with fail;refine(GA _ _ _ _ h).mono ?_;rintro e w1 ⟨rfl,hR1,b1⟩;have HA0:Hid (A1 w w1.drew 0):=⟨0,Nat.le_refl _,hR1.drewN 1,b1.drew⟩
 clear h hR1 b1;go_wp2_with fail;refine wp_region_held_drew (S:=fun _=>True) (by kernel_rfl) (trivial) (fun hHeld=>?_);generalize w1.drew=v1 at *;rename_i K0 hK0;refine wpAnyH_take (i:=0) (v:=?_) rfl (by kernel_rfl) (by kernel_rfl) (by kernel_rfl) (fun _ _ _ h=>h) (Or.inl ⟨by rfl,?_⟩) (by assumption) ?_;rotate_left
 ·(intro w9 hSw;(try dsimp only at hSw);go_simp)<;>with_reducible rfl
 try simp only[Act.put,cJ]
 refine wpAnyH_take (i:=2) (v:=?_) rfl (by kernel_rfl) (by kernel_rfl) (by kernel_rfl) (fun _ _ _ h=>h) (Or.inl ⟨by rfl,?_⟩) (by assumption) ?_;rotate_left
 ·(intro w9 hSw;(try dsimp only at hSw);go_simp)<;>with_reducible rfl
 try simp only[Act.put,cJ]
 refine wpAnyH_take (i:=3) (v:=?_) rfl (by kernel_rfl) (by kernel_rfl) (by kernel_rfl) (fun _ _ _ h=>h) (Or.inl ⟨by rfl,?_⟩) (by assumption) ?_;rotate_left
 ·(intro w9 hSw;(try dsimp only at hSw);go_simp)<;>with_reducible rfl
 try simp only[Act.put,cJ]
 refine wpAnyH_take (i:=8) (v:=?_) rfl (by kernel_rfl) (by kernel_rfl) (by kernel_rfl) (fun _ _ _ h=>h) (Or.inl ⟨by rfl,?_⟩) (by assumption) ?_;rotate_left
 ·(intro w9 hSw;(try dsimp only at hSw);go_simp)<;>with_reducible rfl
 try simp only[Act.put,cJ]
 refine wpAnyH_ready (rs:=[1,7]) (by kernel_rfl) (by simp) ?_;refine AllReadyH.cons rfl (fun K hK=>?_) ?_;rotate_left;refine AllReadyH.cons rfl (fun K hK=>?_) AllReadyH.nil;go_simp
 (repeat(rename_i hwq;clear hwq))
 refine hK.out _ _ (by trivial) (fun hHeld2=>?_);clear hK K hHeld;have hHeld:=hHeld2
 clear hHeld2;try simp only[Act.put,cJ]
 (have HA7:=aA (HA0.out.alloc (.cells #[.int .i64 60,.int .i64 60,.int .i64 60,.int .i64 3,.int .i64 0,.int .i64 (-1),.int .i64 61] 3));have HC7:=aA (oV HA0.out 3);have HB7:=aA (xX v1 (.cells #[.int .i64 60,.int .i64 60,.int .i64 60,.int .i64 3,.int .i64 0,.int .i64 (-1),.int .i64 61] 3));generalize World.alloc v1 (.cells #[.int .i64 60,.int .i64 60,.int .i64 60,.int .i64 3,.int .i64 0,.int .i64 (-1),.int .i64 61] 3)=u7 at *;generalize v1.heap.size=N7 at *)
 refine wpAnyH_ready (rs:=[1]) (by kernel_rfl) (by simp) ?_;refine AllReadyH.cons rfl (fun K hK=>?_) AllReadyH.nil;go_simp
 (repeat(rename_i hwq;clear hwq))
 go_wp2_with (go_at_call 36;refine(Fa HA7.out (by omega)).mono ?_;rintro e u1 ⟨o,rfl,hA,hB⟩;have HA1:=aA hA;have HB1:=aA hB;clear hA hB);refine hK.out _ _ (by trivial) (fun hHeld2=>?_);clear hK K hHeld;have hHeld:=hHeld2
 clear hHeld2;try simp only[Act.put,cJ]
 refine wpAnyH_ready (rs:=[4]) (by kernel_rfl) (by simp) ?_;refine AllReadyH.cons rfl (fun K hK=>?_) AllReadyH.nil;go_simp
 (repeat(rename_i hwq;clear hwq))
 go_wp2_with (go_at_call 38;refine(vW 2 HA1.out (by omega) (by omega) (by omega)).mono ?_;rintro e u4 ⟨x,rfl,x0,x2,hA,hB⟩;have HA4:=aA hA;have HB4:=aA hB;clear hA hB);refine hK.out _ _ (by trivial) (fun hHeld2=>?_);clear hK K hHeld;have hHeld:=hHeld2
 clear hHeld2;try simp only[Act.put,cJ]
 refine wpAnyH_take (i:=5) (v:=?_) rfl (by kernel_rfl) (by kernel_rfl) (by kernel_rfl) (fun _ _ _ h=>h) (Or.inl ⟨by rfl,?_⟩) (by assumption) ?_;rotate_left
 ·(intro w9 hSw;(try dsimp only at hSw);go_simp)<;>with_reducible rfl
 try simp only[Act.put,cJ]
 refine wpAnyH_ready (rs:=[6]) (by kernel_rfl) (by simp) ?_;refine AllReadyH.cons rfl (fun K hK=>?_) AllReadyH.nil;go_simp
 (repeat(rename_i hwq;clear hwq))
 have hwx:IntKind.i64.wrap (2+x)=2+x:=(by rw[IntKind.wrap_i64];omega)
 (try simp only[hwx])
 clear hwx;go_wp2_with (go_at_call 37;refine(LZ (2+x) HA4.out (by omega) (by omega) (by omega)).mono ?_;rintro e u6 ⟨la,n,lc,lad,lcp,L,rfl,hn5,hL,hA,hB⟩;have HL:=aA hL;clear hL;have HA6:=aA hA;have HB6:=aA hB;clear hA hB);refine hK.out _ _ (by trivial) (fun hHeld2=>?_);clear hK K hHeld;have hHeld:=hHeld2
 clear hHeld2;try simp only[Act.put,cJ]
 refine wpAnyH_ready (rs:=[9]) (by kernel_rfl) (by simp) ?_;refine AllReadyH.cons rfl (fun K hK=>?_) AllReadyH.nil;go_simp
 (repeat(rename_i hwq;clear hwq))
 go_wp2_with (go_at_call 38;refine(vW 7 HA6.out (by omega) (by omega) (by omega)).mono ?_;rintro e u9 ⟨j,rfl,j0,j7,hA,hB⟩;have HA9:=aA hA;have HB9:=aA hB;clear hA hB);refine hK.out _ _ (by trivial) (fun hHeld2=>?_);clear hK K hHeld;have hHeld:=hHeld2
 clear hHeld2;try simp only[Act.put,cJ]
 refine wpAnyH_take (i:=10) (v:=?_) rfl (by kernel_rfl) (by kernel_rfl) (by kernel_rfl) (fun _ _ _ h=>h) (Or.inl ⟨by rfl,?_⟩) (by assumption) ?_;rotate_left
 ·(intro w9 hSw;(try dsimp only at hSw);go_simp)<;>with_reducible rfl
 try simp only[Act.put,cJ]
 refine wpAnyH_take (i:=12) (v:=?_) rfl (by kernel_rfl) (by kernel_rfl) (by kernel_rfl) (fun _ _ _ h=>h) (Or.inl ⟨by rfl,?_⟩) (by assumption) ?_;rotate_left
 ·(intro w9 hSw;(try dsimp only at hSw);go_simp)<;>with_reducible rfl
 try simp only[Act.put,cJ]
 refine wpAnyH_take (i:=13) (v:=?_) rfl (by kernel_rfl) (by kernel_rfl) (by kernel_rfl) (fun _ _ _ h=>h) (Or.inl ⟨by rfl,?_⟩) (by assumption) ?_;rotate_left
 ·(intro w9 hSw;(try dsimp only at hSw);go_simp)<;>with_reducible rfl
 try simp only[Act.put,cJ]
 refine wpAnyH_ready (rs:=[11]) (by kernel_rfl) (by simp) ?_;refine AllReadyH.cons rfl (fun K hK=>?_) AllReadyH.nil
 (repeat(rename_i hwq;clear hwq))
 refine Exists.elim ((HC7.out.on (HB1.out.trans (HB4.out.trans (HB6.out.trans HB9.out)))).2.2 j j0 j7) (fun fu hfq=>?_);obtain⟨hfu,fu1,fu2⟩:=hfq;(try simp only[lL]at hfu);go_simp;refine hK.out _ _ (by trivial) (fun hHeld2=>?_);clear hK K hHeld;have hHeld:=hHeld2
 clear hHeld2;try simp only[Act.put,cJ]
 refine wpAnyH_take (i:=14) (v:=?_) rfl (by kernel_rfl) (by kernel_rfl) (by kernel_rfl) (fun _ _ _ h=>h) (Or.inl ⟨by rfl,?_⟩) (by assumption) ?_;rotate_left
 ·(intro w9 hSw;(try dsimp only at hSw);go_simp)<;>with_reducible rfl
 try simp only[Act.put,cJ]
 refine wpAnyH_done (by kernel_rfl) ?_ _;rotate_left;go_simp
 (repeat(rename_i hwq;clear hwq))
 go_wp2_with (go_at_call 36;refine(Fa HA0.out (by omega)).mono ?_;rintro e u1 ⟨o,rfl,hA,hB⟩;have HA1:=aA hA;have HB1:=aA hB;clear hA hB);refine hK.out _ _ (by trivial) (fun hHeld2=>?_);clear hK K hHeld;have hHeld:=hHeld2
 clear hHeld2;try simp only[Act.put,cJ]
 refine wpAnyH_ready (rs:=[4,7]) (by kernel_rfl) (by simp) ?_;refine AllReadyH.cons rfl (fun K hK=>?_) ?_;rotate_left;refine AllReadyH.cons rfl (fun K hK=>?_) AllReadyH.nil;go_simp
 (repeat(rename_i hwq;clear hwq))
 refine hK.out _ _ (by trivial) (fun hHeld2=>?_);clear hK K hHeld;have hHeld:=hHeld2
 clear hHeld2;try simp only[Act.put,cJ]
 (have HA7:=aA (HA1.out.alloc (.cells #[.int .i64 60,.int .i64 60,.int .i64 60,.int .i64 3,.int .i64 0,.int .i64 (-1),.int .i64 61] 3));have HC7:=aA (oV HA1.out 3);have HB7:=aA (xX u1 (.cells #[.int .i64 60,.int .i64 60,.int .i64 60,.int .i64 3,.int .i64 0,.int .i64 (-1),.int .i64 61] 3));generalize World.alloc u1 (.cells #[.int .i64 60,.int .i64 60,.int .i64 60,.int .i64 3,.int .i64 0,.int .i64 (-1),.int .i64 61] 3)=u7 at *;generalize u1.heap.size=N7 at *)
 refine wpAnyH_ready (rs:=[4]) (by kernel_rfl) (by simp) ?_;refine AllReadyH.cons rfl (fun K hK=>?_) AllReadyH.nil;go_simp
 (repeat(rename_i hwq;clear hwq))
 go_wp2_with (go_at_call 38;refine(vW 2 HA7.out (by omega) (by omega) (by omega)).mono ?_;rintro e u4 ⟨x,rfl,x0,x2,hA,hB⟩;have HA4:=aA hA;have HB4:=aA hB;clear hA hB);refine hK.out _ _ (by trivial) (fun hHeld2=>?_);clear hK K hHeld;have hHeld:=hHeld2
 clear hHeld2;try simp only[Act.put,cJ]
 refine wpAnyH_take (i:=5) (v:=?_) rfl (by kernel_rfl) (by kernel_rfl) (by kernel_rfl) (fun _ _ _ h=>h) (Or.inl ⟨by rfl,?_⟩) (by assumption) ?_;rotate_left
 ·(intro w9 hSw;(try dsimp only at hSw);go_simp)<;>with_reducible rfl
 try simp only[Act.put,cJ]
 refine wpAnyH_ready (rs:=[6]) (by kernel_rfl) (by simp) ?_;refine AllReadyH.cons rfl (fun K hK=>?_) AllReadyH.nil;go_simp
 (repeat(rename_i hwq;clear hwq))
 have hwx:IntKind.i64.wrap (2+x)=2+x:=(by rw[IntKind.wrap_i64];omega)
 (try simp only[hwx])
 clear hwx;go_wp2_with (go_at_call 37;refine(LZ (2+x) HA4.out (by omega) (by omega) (by omega)).mono ?_;rintro e u6 ⟨la,n,lc,lad,lcp,L,rfl,hn5,hL,hA,hB⟩;have HL:=aA hL;clear hL;have HA6:=aA hA;have HB6:=aA hB;clear hA hB);refine hK.out _ _ (by trivial) (fun hHeld2=>?_);clear hK K hHeld;have hHeld:=hHeld2
 clear hHeld2;try simp only[Act.put,cJ]
 refine wpAnyH_ready (rs:=[9]) (by kernel_rfl) (by simp) ?_;refine AllReadyH.cons rfl (fun K hK=>?_) AllReadyH.nil;go_simp
 (repeat(rename_i hwq;clear hwq))
 go_wp2_with (go_at_call 38;refine(vW 7 HA6.out (by omega) (by omega) (by omega)).mono ?_;rintro e u9 ⟨j,rfl,j0,j7,hA,hB⟩;have HA9:=aA hA;have HB9:=aA hB;clear hA hB);refine hK.out _ _ (by trivial) (fun hHeld2=>?_);clear hK K hHeld;have hHeld:=hHeld2
 clear hHeld2;try simp only[Act.put,cJ]
 refine wpAnyH_take (i:=10) (v:=?_) rfl (by kernel_rfl) (by kernel_rfl) (by kernel_rfl) (fun _ _ _ h=>h) (Or.inl ⟨by rfl,?_⟩) (by assumption) ?_;rotate_left
 ·(intro w9 hSw;(try dsimp only at hSw);go_simp)<;>with_reducible rfl
 try simp only[Act.put,cJ]
 refine wpAnyH_take (i:=12) (v:=?_) rfl (by kernel_rfl) (by kernel_rfl) (by kernel_rfl) (fun _ _ _ h=>h) (Or.inl ⟨by rfl,?_⟩) (by assumption) ?_;rotate_left
 ·(intro w9 hSw;(try dsimp only at hSw);go_simp)<;>with_reducible rfl
 try simp only[Act.put,cJ]
 refine wpAnyH_take (i:=13) (v:=?_) rfl (by kernel_rfl) (by kernel_rfl) (by kernel_rfl) (fun _ _ _ h=>h) (Or.inl ⟨by rfl,?_⟩) (by assumption) ?_;rotate_left
 ·(intro w9 hSw;(try dsimp only at hSw);go_simp)<;>with_reducible rfl
 try simp only[Act.put,cJ]
 refine wpAnyH_ready (rs:=[11]) (by kernel_rfl) (by simp) ?_;refine AllReadyH.cons rfl (fun K hK=>?_) AllReadyH.nil
 (repeat(rename_i hwq;clear hwq))
 refine Exists.elim ((HC7.out.on (HB4.out.trans (HB6.out.trans HB9.out))).2.2 j j0 j7) (fun fu hfq=>?_);obtain⟨hfu,fu1,fu2⟩:=hfq;(try simp only[lL]at hfu);go_simp;refine hK.out _ _ (by trivial) (fun hHeld2=>?_);clear hK K hHeld;have hHeld:=hHeld2
 clear hHeld2;try simp only[Act.put,cJ]
 refine wpAnyH_take (i:=14) (v:=?_) rfl (by kernel_rfl) (by kernel_rfl) (by kernel_rfl) (fun _ _ _ h=>h) (Or.inl ⟨by rfl,?_⟩) (by assumption) ?_;rotate_left
 ·(intro w9 hSw;(try dsimp only at hSw);go_simp)<;>with_reducible rfl
 try simp only[Act.put,cJ]
 refine wpAnyH_done (by kernel_rfl) ?_ _;rotate_left;rotate_left;go_simp
 (repeat(rename_i hwq;clear hwq))
 go_wp2_with (go_at_call 38;refine(vW 2 HA1.out (by omega) (by omega) (by omega)).mono ?_;rintro e u4 ⟨x,rfl,x0,x2,hA,hB⟩;have HA4:=aA hA;have HB4:=aA hB;clear hA hB);refine hK.out _ _ (by trivial) (fun hHeld2=>?_);clear hK K hHeld;have hHeld:=hHeld2
 clear hHeld2;try simp only[Act.put,cJ]
 refine wpAnyH_take (i:=5) (v:=?_) rfl (by kernel_rfl) (by kernel_rfl) (by kernel_rfl) (fun _ _ _ h=>h) (Or.inl ⟨by rfl,?_⟩) (by assumption) ?_;rotate_left
 ·(intro w9 hSw;(try dsimp only at hSw);go_simp)<;>with_reducible rfl
 try simp only[Act.put,cJ]
 refine wpAnyH_ready (rs:=[6,7]) (by kernel_rfl) (by simp) ?_;refine AllReadyH.cons rfl (fun K hK=>?_) ?_;rotate_left;refine AllReadyH.cons rfl (fun K hK=>?_) AllReadyH.nil;go_simp
 (repeat(rename_i hwq;clear hwq))
 refine hK.out _ _ (by trivial) (fun hHeld2=>?_);clear hK K hHeld;have hHeld:=hHeld2
 clear hHeld2;try simp only[Act.put,cJ]
 (have HA7:=aA (HA4.out.alloc (.cells #[.int .i64 60,.int .i64 60,.int .i64 60,.int .i64 3,.int .i64 0,.int .i64 (-1),.int .i64 61] 3));have HC7:=aA (oV HA4.out 3);have HB7:=aA (xX u4 (.cells #[.int .i64 60,.int .i64 60,.int .i64 60,.int .i64 3,.int .i64 0,.int .i64 (-1),.int .i64 61] 3));generalize World.alloc u4 (.cells #[.int .i64 60,.int .i64 60,.int .i64 60,.int .i64 3,.int .i64 0,.int .i64 (-1),.int .i64 61] 3)=u7 at *;generalize u4.heap.size=N7 at *)
 refine wpAnyH_ready (rs:=[6]) (by kernel_rfl) (by simp) ?_;refine AllReadyH.cons rfl (fun K hK=>?_) AllReadyH.nil;go_simp
 (repeat(rename_i hwq;clear hwq))
 have hwx:IntKind.i64.wrap (2+x)=2+x:=(by rw[IntKind.wrap_i64];omega)
 (try simp only[hwx])
 clear hwx;go_wp2_with (go_at_call 37;refine(LZ (2+x) HA7.out (by omega) (by omega) (by omega)).mono ?_;rintro e u6 ⟨la,n,lc,lad,lcp,L,rfl,hn5,hL,hA,hB⟩;have HL:=aA hL;clear hL;have HA6:=aA hA;have HB6:=aA hB;clear hA hB);refine hK.out _ _ (by trivial) (fun hHeld2=>?_);clear hK K hHeld;have hHeld:=hHeld2
 clear hHeld2;try simp only[Act.put,cJ]
 refine wpAnyH_ready (rs:=[9]) (by kernel_rfl) (by simp) ?_;refine AllReadyH.cons rfl (fun K hK=>?_) AllReadyH.nil;go_simp
 (repeat(rename_i hwq;clear hwq))
 go_wp2_with (go_at_call 38;refine(vW 7 HA6.out (by omega) (by omega) (by omega)).mono ?_;rintro e u9 ⟨j,rfl,j0,j7,hA,hB⟩;have HA9:=aA hA;have HB9:=aA hB;clear hA hB);refine hK.out _ _ (by trivial) (fun hHeld2=>?_);clear hK K hHeld;have hHeld:=hHeld2
 clear hHeld2;try simp only[Act.put,cJ]
 refine wpAnyH_take (i:=10) (v:=?_) rfl (by kernel_rfl) (by kernel_rfl) (by kernel_rfl) (fun _ _ _ h=>h) (Or.inl ⟨by rfl,?_⟩) (by assumption) ?_;rotate_left
 ·(intro w9 hSw;(try dsimp only at hSw);go_simp)<;>with_reducible rfl
 try simp only[Act.put,cJ]
 refine wpAnyH_take (i:=12) (v:=?_) rfl (by kernel_rfl) (by kernel_rfl) (by kernel_rfl) (fun _ _ _ h=>h) (Or.inl ⟨by rfl,?_⟩) (by assumption) ?_;rotate_left
 ·(intro w9 hSw;(try dsimp only at hSw);go_simp)<;>with_reducible rfl
 try simp only[Act.put,cJ]
 refine wpAnyH_take (i:=13) (v:=?_) rfl (by kernel_rfl) (by kernel_rfl) (by kernel_rfl) (fun _ _ _ h=>h) (Or.inl ⟨by rfl,?_⟩) (by assumption) ?_;rotate_left
 ·(intro w9 hSw;(try dsimp only at hSw);go_simp)<;>with_reducible rfl
 try simp only[Act.put,cJ]
 refine wpAnyH_ready (rs:=[11]) (by kernel_rfl) (by simp) ?_;refine AllReadyH.cons rfl (fun K hK=>?_) AllReadyH.nil
 (repeat(rename_i hwq;clear hwq))
 refine Exists.elim ((HC7.out.on (HB6.out.trans HB9.out)).2.2 j j0 j7) (fun fu hfq=>?_);obtain⟨hfu,fu1,fu2⟩:=hfq;(try simp only[lL]at hfu);go_simp;refine hK.out _ _ (by trivial) (fun hHeld2=>?_);clear hK K hHeld;have hHeld:=hHeld2
 clear hHeld2;try simp only[Act.put,cJ]
 refine wpAnyH_take (i:=14) (v:=?_) rfl (by kernel_rfl) (by kernel_rfl) (by kernel_rfl) (fun _ _ _ h=>h) (Or.inl ⟨by rfl,?_⟩) (by assumption) ?_;rotate_left
 ·(intro w9 hSw;(try dsimp only at hSw);go_simp)<;>with_reducible rfl
 try simp only[Act.put,cJ]
 refine wpAnyH_done (by kernel_rfl) ?_ _;rotate_left;rotate_left;rotate_left;go_simp
 (repeat(rename_i hwq;clear hwq))
 have hwx:IntKind.i64.wrap (2+x)=2+x:=(by rw[IntKind.wrap_i64];omega)
 (try simp only[hwx])
 clear hwx;go_wp2_with (go_at_call 37;refine(LZ (2+x) HA4.out (by omega) (by omega) (by omega)).mono ?_;rintro e u6 ⟨la,n,lc,lad,lcp,L,rfl,hn5,hL,hA,hB⟩;have HL:=aA hL;clear hL;have HA6:=aA hA;have HB6:=aA hB;clear hA hB);refine hK.out _ _ (by trivial) (fun hHeld2=>?_);clear hK K hHeld;have hHeld:=hHeld2
 clear hHeld2;try simp only[Act.put,cJ]
 refine wpAnyH_ready (rs:=[7,9]) (by kernel_rfl) (by simp) ?_;refine AllReadyH.cons rfl (fun K hK=>?_) ?_;rotate_left;refine AllReadyH.cons rfl (fun K hK=>?_) AllReadyH.nil;go_simp
 (repeat(rename_i hwq;clear hwq))
 go_wp2_with (go_at_call 38;refine(vW 7 HA6.out (by omega) (by omega) (by omega)).mono ?_;rintro e u9 ⟨j,rfl,j0,j7,hA,hB⟩;have HA9:=aA hA;have HB9:=aA hB;clear hA hB);refine hK.out _ _ (by trivial) (fun hHeld2=>?_);clear hK K hHeld;have hHeld:=hHeld2
 clear hHeld2;try simp only[Act.put,cJ]
 refine wpAnyH_take (i:=12) (v:=?_) rfl (by kernel_rfl) (by kernel_rfl) (by kernel_rfl) (fun _ _ _ h=>h) (Or.inl ⟨by rfl,?_⟩) (by assumption) ?_;rotate_left
 ·(intro w9 hSw;(try dsimp only at hSw);go_simp)<;>with_reducible rfl
 try simp only[Act.put,cJ]
 refine wpAnyH_take (i:=13) (v:=?_) rfl (by kernel_rfl) (by kernel_rfl) (by kernel_rfl) (fun _ _ _ h=>h) (Or.inl ⟨by rfl,?_⟩) (by assumption) ?_;rotate_left
 ·(intro w9 hSw;(try dsimp only at hSw);go_simp)<;>with_reducible rfl
 try simp only[Act.put,cJ]
 refine wpAnyH_ready (rs:=[7]) (by kernel_rfl) (by simp) ?_;refine AllReadyH.cons rfl (fun K hK=>?_) AllReadyH.nil;go_simp
 (repeat(rename_i hwq;clear hwq))
 refine hK.out _ _ (by trivial) (fun hHeld2=>?_);clear hK K hHeld;have hHeld:=hHeld2
 clear hHeld2;try simp only[Act.put,cJ]
 (have HA7:=aA (HA9.out.alloc (.cells #[.int .i64 60,.int .i64 60,.int .i64 60,.int .i64 3,.int .i64 0,.int .i64 (-1),.int .i64 61] 3));have HC7:=aA (oV HA9.out 3);have HB7:=aA (xX u9 (.cells #[.int .i64 60,.int .i64 60,.int .i64 60,.int .i64 3,.int .i64 0,.int .i64 (-1),.int .i64 61] 3));generalize World.alloc u9 (.cells #[.int .i64 60,.int .i64 60,.int .i64 60,.int .i64 3,.int .i64 0,.int .i64 (-1),.int .i64 61] 3)=u7 at *;generalize u9.heap.size=N7 at *)
 refine wpAnyH_take (i:=10) (v:=?_) rfl (by kernel_rfl) (by kernel_rfl) (by kernel_rfl) (fun _ _ _ h=>h) (Or.inl ⟨by rfl,?_⟩) (by assumption) ?_;rotate_left
 ·(intro w9 hSw;(try dsimp only at hSw);go_simp)<;>with_reducible rfl
 try simp only[Act.put,cJ]
 refine wpAnyH_ready (rs:=[11]) (by kernel_rfl) (by simp) ?_;refine AllReadyH.cons rfl (fun K hK=>?_) AllReadyH.nil
 (repeat(rename_i hwq;clear hwq))
 refine Exists.elim (HC7.out.2.2 j j0 j7) (fun fu hfq=>?_);obtain⟨hfu,fu1,fu2⟩:=hfq;(try simp only[lL]at hfu);go_simp;refine hK.out _ _ (by trivial) (fun hHeld2=>?_);clear hK K hHeld;have hHeld:=hHeld2
 clear hHeld2;try simp only[Act.put,cJ]
 refine wpAnyH_take (i:=14) (v:=?_) rfl (by kernel_rfl) (by kernel_rfl) (by kernel_rfl) (fun _ _ _ h=>h) (Or.inl ⟨by rfl,?_⟩) (by assumption) ?_;rotate_left
 ·(intro w9 hSw;(try dsimp only at hSw);go_simp)<;>with_reducible rfl
 try simp only[Act.put,cJ]
 refine wpAnyH_done (by kernel_rfl) ?_ _;rotate_left;rotate_left;rotate_left;rotate_left;go_simp
 (repeat(rename_i hwq;clear hwq))
 refine hK.out _ _ (by trivial) (fun hHeld2=>?_);clear hK K hHeld;have hHeld:=hHeld2
 clear hHeld2;try simp only[Act.put,cJ]
 (have HA7:=aA (HA6.out.alloc (.cells #[.int .i64 60,.int .i64 60,.int .i64 60,.int .i64 3,.int .i64 0,.int .i64 (-1),.int .i64 61] 3));have HC7:=aA (oV HA6.out 3);have HB7:=aA (xX u6 (.cells #[.int .i64 60,.int .i64 60,.int .i64 60,.int .i64 3,.int .i64 0,.int .i64 (-1),.int .i64 61] 3));generalize World.alloc u6 (.cells #[.int .i64 60,.int .i64 60,.int .i64 60,.int .i64 3,.int .i64 0,.int .i64 (-1),.int .i64 61] 3)=u7 at *;generalize u6.heap.size=N7 at *)
 refine wpAnyH_ready (rs:=[9]) (by kernel_rfl) (by simp) ?_;refine AllReadyH.cons rfl (fun K hK=>?_) AllReadyH.nil;go_simp
 (repeat(rename_i hwq;clear hwq))
 go_wp2_with (go_at_call 38;refine(vW 7 HA7.out (by omega) (by omega) (by omega)).mono ?_;rintro e u9 ⟨j,rfl,j0,j7,hA,hB⟩;have HA9:=aA hA;have HB9:=aA hB;clear hA hB);refine hK.out _ _ (by trivial) (fun hHeld2=>?_);clear hK K hHeld;have hHeld:=hHeld2
 clear hHeld2;try simp only[Act.put,cJ]
 refine wpAnyH_take (i:=10) (v:=?_) rfl (by kernel_rfl) (by kernel_rfl) (by kernel_rfl) (fun _ _ _ h=>h) (Or.inl ⟨by rfl,?_⟩) (by assumption) ?_;rotate_left
 ·(intro w9 hSw;(try dsimp only at hSw);go_simp)<;>with_reducible rfl
 try simp only[Act.put,cJ]
 refine wpAnyH_take (i:=12) (v:=?_) rfl (by kernel_rfl) (by kernel_rfl) (by kernel_rfl) (fun _ _ _ h=>h) (Or.inl ⟨by rfl,?_⟩) (by assumption) ?_;rotate_left
 ·(intro w9 hSw;(try dsimp only at hSw);go_simp)<;>with_reducible rfl
 try simp only[Act.put,cJ]
 refine wpAnyH_take (i:=13) (v:=?_) rfl (by kernel_rfl) (by kernel_rfl) (by kernel_rfl) (fun _ _ _ h=>h) (Or.inl ⟨by rfl,?_⟩) (by assumption) ?_;rotate_left
 ·(intro w9 hSw;(try dsimp only at hSw);go_simp)<;>with_reducible rfl
 try simp only[Act.put,cJ]
 refine wpAnyH_ready (rs:=[11]) (by kernel_rfl) (by simp) ?_;refine AllReadyH.cons rfl (fun K hK=>?_) AllReadyH.nil
 (repeat(rename_i hwq;clear hwq))
 refine Exists.elim ((HC7.out.on HB9.out).2.2 j j0 j7) (fun fu hfq=>?_);obtain⟨hfu,fu1,fu2⟩:=hfq;(try simp only[lL]at hfu);go_simp;refine hK.out _ _ (by trivial) (fun hHeld2=>?_);clear hK K hHeld;have hHeld:=hHeld2
 clear hHeld2;try simp only[Act.put,cJ]
 refine wpAnyH_take (i:=14) (v:=?_) rfl (by kernel_rfl) (by kernel_rfl) (by kernel_rfl) (fun _ _ _ h=>h) (Or.inl ⟨by rfl,?_⟩) (by assumption) ?_;rotate_left
 ·(intro w9 hSw;(try dsimp only at hSw);go_simp)<;>with_reducible rfl
 try simp only[Act.put,cJ]
 refine wpAnyH_done (by kernel_rfl) ?_ _;rotate_left
 all_goals(
  go_wp2;refine cW (v:=.tuple #[.int .i64 o,.slice la n lc,.int .i64 fu]) (by simp[results,Tryz.results9,go_sem, *]) rfl ?_;refine⟨o,la,n,lc,lad,lcp,L,fu,rfl,?_,hn5,⟨fu1,fu2⟩,?_⟩
  ·first
    |with_reducible exact DQ (HL.out.beside HB9.out)
    |with_reducible exact DQ ((BW HL.out HB7.out).beside HB9.out)
    |with_reducible exact DQ (BW (HL.out.beside HB9.out) HB7.out)
  ·first
    |with_reducible exact HA9.out.bel
    |with_reducible exact HA7.out.bel)
end Go.Proofs.YtmlaedpamobmhaaGreat
